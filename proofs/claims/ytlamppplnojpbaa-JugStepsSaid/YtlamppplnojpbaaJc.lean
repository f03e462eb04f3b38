import Derived.Test.YtlamppplnojpbaaJb
import Derived.Maps.OwnIn
import Derived.Maps.AppendAt
import Derived.RangeFuncNested
import Derived.RangeFuncBound
import Derived.RangeFuncCalls
import Derived.RangeFuncLeaves
import Derived.Shelf.Abstract
import Derived.Shelf.RegionOpen
import Derived.WalkKit
import Derived.OwnWalkIn
import Derived.TacticsInMore
import Derived.LoopNIn
import Derived.LoopIn
import Derived.WalkSpells
import Derived.WalkLawsBesides
import Derived.BigQuiet
import Derived.Deep.QuietTactic
import Derived.Lib.Hide
import Derived.Deep.RegionHeld3
import Derived.StillTailTactics
import Derived.Deep.LoopGhost
import Derived.Maps.OwnSet
import Derived.Lib.IndexAny
import Derived.Sort.QuietThIn
import Derived.Sort.QuietTacIn
import Derived.Sort.BigQuietIn
namespace Go.Proofs.Ytlamppplnojpbaa
open Go.RowKit Go.Shelf
attribute [local go_sem] Oper.semAt_some
/-- a step of n jugs -/
def stepB (n f t : Int) : Bool := decide (f ≠ t) && (decide (-1 ≤ min f t) && decide (max f t < n))
theorem two_start (w : World) (J S : List Value) : ∃ V, V = (w.alloc (.cells J.toArray 80)).alloc (.cells S.toArray 48) ∧
    Row V w.heap.size 80 J ∧ Row V (w.heap.size + 1) 48 S ∧ Below w.heap.size w V ∧ V.heap.size = w.heap.size + 2 := by
  obtain ⟨w1, h1⟩ : ∃ w1, w1 = w.alloc (.cells J.toArray 80) := ⟨_, rfl⟩
  obtain ⟨w2, h2⟩ : ∃ w2, w2 = w1.alloc (.cells S.toArray 48) := ⟨_, rfl⟩
  have s1 : w1.heap.size = w.heap.size + 1 := by rw [h1, size_al]
  have s2 : w2.heap.size = w.heap.size + 2 := by rw [h2, size_al, s1]
  have b1 : Below w.heap.size w w1 := by rw [h1]; exact Below.al (Below.refl _ _) (Nat.le_refl _) _
  have b2 : Below w1.heap.size w1 w2 := by rw [h2]; exact Below.al (Below.refl _ _) (Nat.le_refl _) _
  have r1 : Row w1 w.heap.size 80 J := by rw [h1]; exact Row.new _ _ _
  have r2 : Row w2 (w.heap.size + 1) 48 S := by rw [h2, ← s1]; exact Row.new _ _ _
  exact ⟨w2, by rw [h2, h1], r1.below b2 r1.lt, r2, Below.andThen b1 b2 (Nat.le_refl _), s2⟩
set_option maxRecDepth 100000 in
set_option maxHeartbeats 1000000 in
theorem isStep_any (n p0 p1 p2 p3 f t : Int) (w : World) :
    Calls Try.prog 55 #[.agg #[.int .i64 n, .int .i64 p0, .int .i64 p1, .int .i64 p2, .int .i64 p3], .agg #[.int .i64 f, .int .i64 t]] w fun e w' => e = .returned (.bool (stepB n f t)) ∧ Below w.heap.size w w' := by
  obtain ⟨V, hV, rJ, rS, hb, hsz⟩ := two_start w [.int .i64 n, .int .i64 p0, .int .i64 p1, .int .i64 p2, .int .i64 p3] [.int .i64 f, .int .i64 t]
  have HV := Lib.hid hV
  have RJ := Lib.hid rJ
  have B0 := Lib.hid hb
  have s0 := rS.cell 0
  have s1 := rS.cell 1
  simp only [List.getElem?_cons_zero, List.getElem?_cons_succ] at s0 s1
  have u0 := Kl.cell rS.lt s0
  have u1 := Kl.cell rS.lt s1
  obtain ⟨E, hE⟩ : ∃ E, stepB n f t = E := ⟨_, rfl⟩
  rw [hE]
  have HE := Lib.hid hE
  clear hV rJ rS hb hsz s0 s1 hE
  go_enter Try.func55, Try.ntmps55
  go_wp2_with fail
  rw [← HV.out]
  refine wp_region_below (by kernel_rfl) (by kernel_rfl) ?_
  repeat (go_big_quiet_step (fail))
  refine wpQuiet_nil ?_
  rintro _ ⟨wq, rfl⟩
  have BQ := Lib.hid wq.h
  generalize wq.W = w2 at *
  clear u0 u1
  have j0 := (RJ.out.below BQ.out RJ.out.lt).cell 0
  simp only [List.getElem?_cons_zero] at j0
  have BZ := Lib.hid (Below.andThen B0.out BQ.out (Nat.le_refl _))
  go_wp2_with fail
  all_goals (
    go_ret
    refine ⟨ret_bool ?_, BZ.out⟩
    rw [← HE.out]
    unfold stepB
    clear HE HV RJ B0 BQ j0 BZ
    rw [Bool.eq_iff_iff]
    simp only [Bool.and_eq_true, decide_eq_true_eq, bne_iff_ne, Bool.false_eq_true, false_iff, ne_eq]
    omega)
set_option maxHeartbeats 1000000 in
theorem index_any (zs : List Int) (x : Int) (b o c : Nat) (w : World) (hi : IntsAt w b o zs) (hb : zs = [] ∨ b < w.heap.size) (hl : zs.length ≤ 1000) :
    Calls Try.prog 76 #[.slice (some ⟨b, o, none⟩) zs.length c, .int .i64 x] w fun e w' => ∃ i : Int, e = .returned (.int .i64 i) ∧ (0 ≤ i ↔ x ∈ zs) ∧ Below w.heap.size w w' := by
  have HI := Lib.hid hi
  clear hi
  go_enter Try.func76, Try.ntmps76
  go_wp2_with fail
  go_loopw [8] (fun i wr => ∃ k : Nat, k ≤ zs.length ∧ i = .int .i64 (k : Int) ∧ Hid (Below w.heap.size w wr) ∧ Hid (∀ j, j < k → zs.getD j 0 ≠ x)) (fun i _ => zs.length - (intOf i).toNat)
  case atStart => exact ⟨0, by omega, rfl, Lib.hid (Below.refl _ _), Lib.hid (fun j hj => by omega)⟩
  case round =>
    obtain ⟨k, hk, rfl, HB, HK⟩ := hrel
    by_cases hlt : k < zs.length
    · have hd : decide ((k : Int) < (zs.length : Int)) = true := decide_eq_true (by omega)
      have hbl : b < w.heap.size := hb.resolve_left (fun e => by rw [e] at hlt; simp at hlt)
      have hx := below_at HB.out hbl (HI.out.at_ k hlt)
      have HM := Lib.hid (List.getElem_mem hlt)
      have HZ := Lib.hid (getD_lt hlt)
      generalize zs[k] = z at *
      by_cases hz : x = z
      · subst hz
        clear HK
        go_wp2_with fail
        go_ret
        exact ⟨(k : Int), rfl, ⟨fun _ => HM.out, fun _ => by omega⟩, HB.out⟩
      · have hz2 : (x == z) = false := by simp [hz]
        have hz3 : decide (x = z) = false := decide_eq_false hz
        have HNE := Lib.hid (show ∀ j, j < k + 1 → zs.getD j 0 ≠ x from fun j hj => by
          rcases Nat.lt_or_ge j k with h | h
          · exact HK.out j h
          · rw [show j = k by omega, HZ.out]; exact fun e => hz e.symm)
        clear HK
        go_wp2_with fail
        go_roundw
        case rel => exact ⟨k + 1, by omega, by simp, HB, HNE⟩
        case measure => simp [intOf]; omega
    · have hd : decide ((k : Int) < (zs.length : Int)) = false := decide_eq_false (by omega)
      have fin := Lib.hid (show x ∉ zs from fun hx => by
        obtain ⟨j, hj, e⟩ := List.getElem_of_mem hx
        exact HK.out j (by omega) (by rw [getD_lt hj, e]))
      clear HK
      go_wp2_with fail
      go_ret
      exact ⟨-1, rfl, ⟨fun h => by omega, fun h => absurd h fin.out⟩, HB.out⟩
set_option maxHeartbeats 1000000 in
theorem contains_any (zs : List Int) (x : Int) (b o c : Nat) (w : World) (hi : IntsAt w b o zs) (hb : zs = [] ∨ b < w.heap.size) (hl : zs.length ≤ 1000) :
    Calls Try.prog 74 #[.slice (some ⟨b, o, none⟩) zs.length c, .int .i64 x] w fun e w' => e = .returned (.bool (decide (x ∈ zs))) ∧ Below w.heap.size w w' := by
  have H := Lib.hid (index_any zs x b o c w hi hb hl)
  clear hi
  go_enter Try.func74, Try.ntmps74
  go_wp2_with fail
  refine H.out.mono ?_
  rintro e w1 ⟨i, rfl, h, hb1⟩
  have HE := Lib.hid (show decide (0 ≤ i) = decide (x ∈ zs) from decide_eq_decide.2 h)
  have B1 := Lib.hid hb1
  clear h hb1 H
  go_wp2_with fail
  go_ret
  exact ⟨ret_bool HE.out, B1.out⟩
/-- one of the jugs has just that amount -/
def holdsB (n : Nat) (F : List Int) (x : Int) : Bool := decide (x ∈ F.take n)
theorem cont4 (n : Nat) (F : List Int) (hF : n ≤ F.length) (hl : F.length ≤ 1000) (x : Int) (g c : Nat) (V : World) (h : Row V g 77 (F.map encI)) :
    Calls Try.prog 74 #[.slice (some ⟨g, 0, none⟩) n c, .int .i64 x] V fun e w' => e = .returned (.bool (holdsB n F x)) ∧ Below V.heap.size V w' := by
  have hlen : (F.take n).length = n := by rw [List.length_take]; omega
  have hi : IntsAt V g 0 (F.take n) := ⟨.inr h.lt, fun i hi => by
    have hi' : i < F.length := by rw [hlen] at hi; omega
    rw [Nat.zero_add, h.cell i, List.getElem?_map, List.getElem?_eq_getElem hi', List.getElem_take]; rfl⟩
  have := contains_any (F.take n) x g 0 c V hi (.inr h.lt) (by omega)
  rw [hlen] at this
  exact this
theorem fill_start (w : World) (J F : List Value) : ∃ V, V = (w.alloc (.cells J.toArray 80)).alloc (.cells F.toArray 77) ∧ Row V (w.heap.size + 1) 77 F ∧ Below w.heap.size w V := by
  obtain ⟨w1, h1⟩ : ∃ w1, w1 = w.alloc (.cells J.toArray 80) := ⟨_, rfl⟩
  obtain ⟨w2, h2⟩ : ∃ w2, w2 = w1.alloc (.cells F.toArray 77) := ⟨_, rfl⟩
  have s1 : w1.heap.size = w.heap.size + 1 := by rw [h1, size_al]
  have b1 : Below w.heap.size w w1 := by rw [h1]; exact Below.al (Below.refl _ _) (Nat.le_refl _) _
  have b2 : Below w1.heap.size w1 w2 := by rw [h2]; exact Below.al (Below.refl _ _) (Nat.le_refl _) _
  have r2 : Row w2 (w.heap.size + 1) 77 F := by rw [h2, ← s1]; exact Row.new _ _ _
  exact ⟨w2, by rw [h2, h1], r2, Below.andThen b1 b2 (Nat.le_refl _)⟩
set_option maxRecDepth 100000 in
set_option maxHeartbeats 1000000 in
theorem holds_any (n : Nat) (hn : n ≤ 4) (p0 p1 p2 p3 f0 f1 f2 f3 x : Int) (w : World) :
    Calls Try.prog 67 #[.agg #[.int .i64 (n : Int), .int .i64 p0, .int .i64 p1, .int .i64 p2, .int .i64 p3], .agg #[.int .i64 f0, .int .i64 f1, .int .i64 f2, .int .i64 f3], .int .i64 x] w fun e w' => e = .returned (.bool (holdsB n [f0, f1, f2, f3] x)) ∧ Below w.heap.size w w' := by
  obtain ⟨V, hV, rF, hb⟩ := fill_start w [.int .i64 (n : Int), .int .i64 p0, .int .i64 p1, .int .i64 p2, .int .i64 p3] [.int .i64 f0, .int .i64 f1, .int .i64 f2, .int .i64 f3]
  have H := Lib.hid (cont4 n [f0, f1, f2, f3] (by simpa using hn) (by simp) x (w.heap.size + 1) 4 V rF)
  have B0 := Lib.hid hb
  have HV := Lib.hid hV
  clear hV rF hb
  have cn : n = 0 ∨ n = 1 ∨ n = 2 ∨ n = 3 ∨ n = 4 := by omega
  clear hn
  rcases cn with rfl | rfl | rfl | rfl | rfl
  all_goals (
    go_enter Try.func67, Try.ntmps67
    go_wp2_with fail
    have hv := HV.out
    refine Calls.mono (by have h := H.out; rw [hv] at h; exact h) ?_
    rintro e w1 ⟨rfl, hb⟩
    rw [← hv] at hb
    have B1 := Lib.hid (Below.andThen B0.out hb (Nat.le_refl _))
    clear hb hv H HV B0
    go_wp2_with fail
    go_ret
    exact ⟨rfl, B1.out⟩)
end Go.Proofs.Ytlamppplnojpbaa
