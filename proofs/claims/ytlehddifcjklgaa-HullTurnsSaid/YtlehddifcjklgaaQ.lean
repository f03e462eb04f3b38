import Derived.Test.YtlehddifcjklgaaP
import Derived.Maps.OwnIn
import Derived.Maps.OwnSet
import Derived.Maps.AppendAt
import Derived.RangeFuncNested
import Derived.RangeFuncBound
import Derived.RangeFuncCalls
import Derived.RangeFuncLeaves
import Derived.Shelf.Abstract
import Derived.Shelf.RegionOpen
import Derived.WalkKit
import Derived.OwnWalkIn
import Derived.TacticsInMore
import Derived.LoopNIn
import Derived.LoopIn
import Derived.Sort.QuietThIn
import Derived.Sort.QuietTacIn
import Derived.Sort.BigQuietIn
import Derived.WalkSpells
import Derived.WalkLawsBesides
import Derived.BigQuiet
import Derived.Deep.QuietTactic
import Derived.Lib.Hide
import Derived.Deep.RegionHeld3
import Derived.StillTailTactics
import Derived.Deep.LoopGhost
import Derived.Lib.IndexAny
namespace Go.Proofs.Ytlehddifcjklgaa
open Go.RowKit Go.Shelf
attribute [local go_sem] Oper.semAt_some
theorem own_grow {W W' : World} {n₀ e s k : Nat} {u : Value} {xs : List Value} (h : W.ownsRow n₀ e s u k xs) (hb : Below W.heap.size W W') : W'.ownsRow n₀ e s u k xs :=
  h.kept (row := none) ⟨hb.os, hb.tape, hb.output, hb.size, fun k hk _ => hb.block k hk⟩ (by
    cases h : u.ownBlock with
    | none => exact .inl rfl
    | some g => right; simp)
theorem own_below {W0 W w2 : World} {o : Obj} {k : Nat} {v : Value} {xs : List Value} (h : W.ownsRow W0.heap.size 3 1 v k xs) (hb : Below W0.heap.size W0 W) (hg : (W.alloc o).grownBy w2 v.ownBlock) : Below W0.heap.size W0 w2 :=
  (Below.al hb (Nat.le_refl _) o).grown hg (Nat.le_trans hb.size (by simp)) (fun r e => by
    rcases h.2 with ⟨rfl, _⟩ | ⟨g', cap, cur, rfl, h1, _⟩
    · simp [Value.ownBlock] at e
    · simp [Value.ownBlock] at e; omega)
/-- the sides up to k of which p holds, as numbers -/
def sidesL (p : Nat → Bool) (k : Nat) : List Int := ((List.range k).filter p).map Int.ofNat
theorem sidesL_succ (p : Nat → Bool) (k : Nat) : sidesL p (k + 1) = if p k then sidesL p k ++ [(k : Int)] else sidesL p k := by
  unfold sidesL; rw [List.range_succ, List.filter_append, List.map_append]
  cases h : p k <;> simp [h]
theorem sidesL_length (p : Nat → Bool) (k : Nat) : (sidesL p k).length ≤ k := by
  unfold sidesL; rw [List.length_map]
  exact Nat.le_trans (List.length_filter_le _ _) (by simp)
set_option maxRecDepth 100000 in
set_option maxHeartbeats 1000000 in
theorem which_any (fx : Nat) (p : Nat → Bool) (ps : List Pt) (b c : Nat) (X Y D : Int) (w : World) (hl : ps.length ≤ 12) (hp : PtsAt w b 0 ps)
    (hf : ∀ s W, s < ps.length → PtsAt W b 0 ps → Calls Try.prog fx #[.agg #[.slice (some ⟨b, 0, none⟩) ps.length c, .int .i64 X, .int .i64 Y, .int .i64 D], .int .i64 (s : Int)] W fun e w' => e = .returned (.bool (p s)) ∧ Below W.heap.size W w') (hent : ∀ args w, (callFunc fx args).run Try.prog w = .ok (.enter fx args) w) :
    Calls Try.prog 68 #[.agg #[.slice (some ⟨b, 0, none⟩) ps.length c, .int .i64 X, .int .i64 Y, .int .i64 D], .func (.func fx) #[.agg #[.slice (some ⟨b, 0, none⟩) ps.length c, .int .i64 X, .int .i64 Y, .int .i64 D]] #[]] w
      fun e w' => ∃ v, e = .returned v ∧ w'.ownsRow w.heap.size 3 1 v (sidesL p ps.length).length ((sidesL p ps.length).map encI) ∧ Below w.heap.size w w' := by
  obtain ⟨i0, hi, hz0, hz1, hz2⟩ := info_parts info3
  have HF := Lib.hid hf
  have HP := Lib.hid hp
  clear hf hp
  go_enter Try.func68, Try.ntmps68
  go_wp2_with fail
  obtain ⟨W0, hW0⟩ : ∃ W0, W0 = w.alloc (.cells #[.slice (some ⟨b, 0, none⟩) ps.length c, .int .i64 X, .int .i64 Y, .int .i64 D] 81) := ⟨_, rfl⟩
  have B0 := Lib.hid (show Below w.heap.size w W0 by rw [hW0]; exact (Below.refl _ _).alloc (Nat.le_refl _) _)
  rw [← hW0]
  clear hW0
  have HP0 := Lib.hid (HP.out.grow B0.out)
  go_loopw [5, 10] (fun v i wr => ∃ k : Nat, k ≤ ps.length ∧ i = .int .i64 (k : Int) ∧ Hid (wr.ownsRow W0.heap.size 3 1 v (sidesL p k).length ((sidesL p k).map encI)) ∧ Hid (Below W0.heap.size W0 wr)) (fun _ i _ => ps.length - (intOf i).toNat)
  case atStart => exact ⟨0, by omega, rfl, Lib.hid (World.ownsRow_nil _ _ _ _), Lib.hid (Below.refl _ _)⟩
  case round =>
    obtain ⟨k, hk, rfl, HR, HB⟩ := hrel
    by_cases hlt : k < ps.length
    · have hd : decide ((k : Int) < (ps.length : Int)) = true := by simp; omega
      go_wp2_with fail
      refine (HF.out k wr hlt (HP0.out.grow HB.out)).mono ?_
      rintro e w1 ⟨rfl, hb⟩
      have HB1 := Lib.hid (Below.andThen HB.out hb (Nat.le_refl _))
      have HR1 := Lib.hid (own_grow HR.out hb)
      have hll := sidesL_length p k
      clear hb HB HR
      cases hpk : p k
      · have e1 : sidesL p (k + 1) = sidesL p k := by rw [sidesL_succ, hpk]; rfl
        have E1 := Lib.hid e1
        clear e1 hpk
        go_wp2_with fail
        go_roundw
        case rel => exact ⟨k + 1, by omega, rfl, by rw [E1.out]; exact HR1, HB1⟩
        case measure => simp [intOf]; omega
      · have e1 : sidesL p (k + 1) = sidesL p k ++ [(k : Int)] := by rw [sidesL_succ, hpk]; rfl
        have E1 := Lib.hid e1
        clear e1 hpk
        generalize sidesL p k = L at *
        go_wp2_with (at_builtin; refine wpList_append_own_at _ rfl _ _ 32 rfl W0.heap.size 3 i0 (.int .i64 0) 1 8 Try.underlying32 hi hz0 hz1 hz2 rfl (by decide) _ _ _ rfl (HR1.out.alloc _) _ 1 1 [encI (k : Int)] rfl rfl (cell_one_at _ _ _ _ (by simp)) (by simp [Value.oneCell', encI]) (by unfold maxLen; omega) (by omega) (Nat.le_trans HB1.out.size (by simp)) ?_; intro v' w2 hown' hgrow hnil hat; have HR2 := Lib.hid hown'; have HB2 := Lib.hid (own_below HR1.out HB1.out hgrow); clear hown' hgrow hnil hat)
        go_roundw
        case rel => exact ⟨k + 1, by omega, rfl, by rw [E1.out]; exact Lib.hid (by simpa using HR2.out), HB2⟩
        case measure => simp [intOf]; omega
    · have hd : decide ((k : Int) < (ps.length : Int)) = false := by simp; omega
      obtain rfl : k = ps.length := by omega
      go_wp2_with fail
      go_ret
      exact ⟨_, rfl, ownsRow_lower HR.out B0.out.size, Below.andThen B0.out HB.out (Nat.le_refl _)⟩
end Go.Proofs.Ytlehddifcjklgaa
