import Derived.Test.YtlehddifcjklgaaCr
import Derived.Maps.OwnIn
import Derived.Maps.OwnSet
import Derived.Maps.AppendAt
import Derived.RangeFuncNested
import Derived.RangeFuncBound
import Derived.RangeFuncCalls
import Derived.RangeFuncLeaves
import Derived.Shelf.Abstract
import Derived.Shelf.RegionOpen
import Derived.WalkKit
import Derived.OwnWalkIn
import Derived.TacticsInMore
import Derived.LoopNIn
import Derived.LoopIn
import Derived.WalkMore
import Derived.Sort.QuietThIn
import Derived.Sort.QuietTacIn
import Derived.Sort.BigQuietIn
import Derived.WalkSpells
import Derived.WalkLawsBesides
import Derived.BigQuiet
import Derived.Deep.QuietTactic
import Derived.Lib.Hide
import Derived.Deep.RegionHeld3
import Derived.StillTailTactics
import Derived.Deep.LoopGhost
import Derived.Lib.IndexAny
namespace Go.Proofs.Ytlehddifcjklgaa
open Go.RowKit Go.Shelf
attribute [local go_sem] Oper.semAt_some
/-- the first of the first k sides with the least lean -/
def lowN (ps : List Pt) (m : Int × Int × Int) : Nat → Nat
  | 0 => 0
  | k + 1 => if Low ps m k (lowN ps m k) then k else lowN ps m k
theorem lowN_lt (ps : List Pt) (m : Int × Int × Int) : ∀ k, 0 < k → lowN ps m k < k
  | 0, h => by omega
  | k + 1, _ => by
    unfold lowN
    split
    · omega
    · by_cases h : 0 < k
      · have := lowN_lt ps m k h; omega
      · obtain rfl : k = 0 := by omega
        simp [lowN]
theorem lowN_lt' (ps : List Pt) (m : Int × Int × Int) (k n : Nat) (h : k < n) : lowN ps m k < n := by
  by_cases h0 : 0 < k
  · have := lowN_lt ps m k h0; omega
  · obtain rfl : k = 0 := by omega
    simp [lowN]; omega
theorem height_parts {ps : List Pt} (hc : chk ps = true) {s : Nat} (hs : s < ps.length) : Bd 943718400000000 (height ps (mid ps) s).1 ∧ Bd 3200 (height ps (mid ps) s).2 := by
  have ha := chk_areP hc
  have h1 := height_small hc hs
  have b1 := ptAt_bd ha hs
  have b2 := nx_bd ha hs
  have a1 : Bd 40 (alongS ps s).1 := (b2.1.sub b1.1).mono (by omega)
  have a2 : Bd 40 (alongS ps s).2 := (b2.2.sub b1.2).mono (by omega)
  have h2 : Bd 3200 (dt (alongS ps s) (alongS ps s)) := ((a1.mul a1).add (a2.mul a2)).mono (by omega)
  exact frac_bd ((h1.mul h1).mono (by omega)) h2
set_option maxRecDepth 100000 in
set_option maxHeartbeats 1000000 in
theorem Lowest_any (ps : List Pt) (b c : Nat) (w : World) (hp : PtsAt w b 0 ps) (hck : chk ps = true) :
    Calls Try.prog 26 #[.slice (some ⟨b, 0, none⟩) ps.length c] w fun e w' => e = .returned (.tuple #[.int .i64 ((lowN ps (mid ps) ps.length : Nat) : Int), .int .i64 0]) ∧ Below w.heap.size w w' := by
  have ha := chk_areP hck
  have hA := chk_area hck
  obtain ⟨h3, h12⟩ := areP_len ha
  have hM := bodyOf_none ps b c w hp hck hA
  obtain ⟨m1, m2, m3, m4⟩ := mid_facts ha hA
  have HH := Lib.hid (fun W s (hs : s < ps.length) (h : PtsAt W b 0 ps) => height_any ps b c (mid ps).1 (mid ps).2.1 (mid ps).2.2 s W h ha hs m1 m2 m3 m4 (along_pos hck hs))
  have HPR := Lib.hid (fun s (hs : s < ps.length) => height_parts hck hs)
  have HLE := Lib.hid (fun s t (hs : s < ps.length) (ht : t < ps.length) => low_height (m := mid ps) (along_pos hck hs) (along_pos hck ht))
  have HP := Lib.hid hp
  have em : ((mid ps).1, (mid ps).2.1, (mid ps).2.2) = mid ps := rfl
  rw [em] at HH
  obtain ⟨X, hX⟩ : ∃ v, (mid ps).1 = v := ⟨_, rfl⟩
  obtain ⟨Y, hY⟩ : ∃ v, (mid ps).2.1 = v := ⟨_, rfl⟩
  obtain ⟨D, hD⟩ : ∃ v, (mid ps).2.2 = v := ⟨_, rfl⟩
  rw [hX, hY, hD] at hM HH
  generalize mid ps = m at *
  clear em hX hY hD m1 m2 m3 m4 hck ha hA hp
  go_enter Try.func26, Try.ntmps26
  go_wp2_with fail
  refine hM.mono ?_
  rintro e w1 ⟨rfl, hb⟩
  obtain ⟨W0, hW0⟩ : ∃ W0, W0 = w1.alloc (.cells #[.slice (some ⟨b, 0, none⟩) ps.length c, .int .i64 X, .int .i64 Y, .int .i64 D] 81) := ⟨_, rfl⟩
  have B0 := Lib.hid (show Below w.heap.size w W0 by rw [hW0]; exact Below.al hb (Nat.le_refl _) _)
  have r0 := Lib.hid (show Row W0 w1.heap.size 81 [.slice (some ⟨b, 0, none⟩) ps.length c, .int .i64 X, .int .i64 Y, .int .i64 D] by rw [hW0]; exact Row.new _ _ _)
  have HP0 := Lib.hid (HP.out.grow B0.out)
  clear hb hM
  go_wp2_with fail
  rw [← hW0]
  clear hW0
  go_loopw [6, 16] (fun l i wr => ∃ k : Nat, k ≤ ps.length ∧ i = .int .i64 (k : Int) ∧ Hid (l = .int .i64 ((lowN ps m k : Nat) : Int)) ∧ Hid (Below W0.heap.size W0 wr)) (fun _ i _ => ps.length - (intOf i).toNat)
  case atStart => exact ⟨0, by omega, rfl, Lib.hid rfl, Lib.hid (Below.refl _ _)⟩
  case round =>
    obtain ⟨k, hk, rfl, HL, HB⟩ := hrel
    have hl := HL.out
    by_cases hlt : k < ps.length
    · have hd : decide ((k : Int) < (ps.length : Int)) = true := by simp; omega
      have hll := lowN_lt' ps m k ps.length hlt
      have HS := Lib.hid (show lowN ps m (k + 1) = if Low ps m k (lowN ps m k) then k else lowN ps m k from rfl)
      generalize lowN ps m k = L at *
      subst hl
      have HLK := Lib.hid (HLE.out k L hlt hll)
      have HC1 := Lib.hid (fun (x : Kl wr) => HH.out x.W k hlt (HP0.out.grow (Below.andThen HB.out x.h (Nat.le_refl _))))
      have HC2 := Lib.hid (fun (x : Kl wr) => HH.out x.W L hll (HP0.out.grow (Below.andThen HB.out x.h (Nat.le_refl _))))
      have p1 := HPR.out k hlt
      have p2 := HPR.out L hll
      obtain ⟨⟨a1, a2⟩, ha⟩ : ∃ v, height ps m k = v := ⟨_, rfl⟩
      obtain ⟨⟨c1, c2⟩, hc⟩ : ∃ v, height ps m L = v := ⟨_, rfl⟩
      rw [ha] at HC1 p1 HLK
      rw [hc] at HC2 p2 HLK
      dsimp only at HC1 HC2 p1 p2
      have HC3 := Lib.hid (fun W => less_any a1 a2 c1 c2 W ((p1.1.mul p2.2).mono (by omega)) ((p2.1.mul p1.2).mono (by omega)))
      rw [HLK.out] at HC3
      have rr := r0.out.below HB.out r0.out.lt
      have u0 := Kl.cell rr.lt (rr.cell 0)
      have u1 := Kl.cell rr.lt (rr.cell 1)
      have u2 := Kl.cell rr.lt (rr.cell 2)
      have u3 := Kl.cell rr.lt (rr.cell 3)
      clear ha hc p1 p2 rr HLK HL
      by_cases hlow : Low ps m k L
      · have dl : decide (Low ps m k L) = true := decide_eq_true hlow
        rw [dl] at HC3
        have E1 := Lib.hid (show lowN ps m (k + 1) = k by rw [HS.out, if_pos hlow])
        clear dl hlow HS
        go_wp2_with fail
        refine wp_region_below (by kernel_rfl) (by kernel_rfl) ?_
        iterate 2 (go_big_quiet_step (fail))
        go_big_quiet_step (first | (go_at_call 74; exact Kl.call (HC1.out _)))
        iterate 2 (go_big_quiet_step (fail))
        go_big_quiet_step (first | (go_at_call 74; exact Kl.call (HC2.out _)))
        go_big_quiet_step (first | (go_at_call 75; exact Kl.call (HC3.out _)))
        refine wpQuiet_nil ?_
        rintro _ ⟨wq, rfl⟩
        have HB1 := Lib.hid (Below.andThen HB.out wq.h (Nat.le_refl _))
        generalize wq.W = w5 at *
        clear u0 u1 u2 u3 HB HC1 HC2 HC3
        go_wp2_with fail
        refine ⟨⟨k + 1, by omega, by simp, Lib.hid (by rw [E1.out]), HB1⟩, ?_⟩
        simp [intOf]; omega
      · have dl : decide (Low ps m k L) = false := decide_eq_false hlow
        rw [dl] at HC3
        have E1 := Lib.hid (show lowN ps m (k + 1) = L by rw [HS.out, if_neg hlow])
        clear dl hlow HS
        go_wp2_with fail
        refine wp_region_below (by kernel_rfl) (by kernel_rfl) ?_
        iterate 2 (go_big_quiet_step (fail))
        go_big_quiet_step (first | (go_at_call 74; exact Kl.call (HC1.out _)))
        iterate 2 (go_big_quiet_step (fail))
        go_big_quiet_step (first | (go_at_call 74; exact Kl.call (HC2.out _)))
        go_big_quiet_step (first | (go_at_call 75; exact Kl.call (HC3.out _)))
        refine wpQuiet_nil ?_
        rintro _ ⟨wq, rfl⟩
        have HB1 := Lib.hid (Below.andThen HB.out wq.h (Nat.le_refl _))
        generalize wq.W = w5 at *
        clear u0 u1 u2 u3 HB HC1 HC2 HC3
        go_wp2_with fail
        refine ⟨⟨k + 1, by omega, by simp, Lib.hid (by rw [E1.out]), HB1⟩, ?_⟩
        simp [intOf]; omega
    · have hd : decide ((k : Int) < (ps.length : Int)) = false := by simp; omega
      obtain rfl : k = ps.length := by omega
      subst hl
      go_wp2_with fail
      go_ret2
      exact ⟨rfl, Below.andThen B0.out HB.out (Nat.le_refl _)⟩
end Go.Proofs.Ytlehddifcjklgaa
