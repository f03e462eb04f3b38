import Derived.Test.YtlehddifcjklgaaH
import Derived.Maps.OwnIn
import Derived.Maps.OwnSet
import Derived.Maps.AppendAt
import Derived.RangeFuncNested
import Derived.RangeFuncBound
import Derived.RangeFuncCalls
import Derived.RangeFuncLeaves
import Derived.Shelf.Abstract
import Derived.Shelf.RegionOpen
import Derived.WalkKit
import Derived.OwnWalkIn
import Derived.TacticsInMore
import Derived.LoopNIn
import Derived.LoopIn
import Derived.Sort.QuietThIn
import Derived.Sort.QuietTacIn
import Derived.Sort.BigQuietIn
import Derived.WalkSpells
import Derived.WalkLawsBesides
import Derived.BigQuiet
import Derived.Deep.QuietTactic
import Derived.Lib.Hide
import Derived.Deep.RegionHeld3
import Derived.StillTailTactics
import Derived.Deep.LoopGhost
import Derived.Lib.IndexAny
namespace Go.Proofs.Ytlehddifcjklgaa
open Go.RowKit Go.Shelf
attribute [local go_sem] Oper.semAt_some
theorem frac_bd {n d A B : Int} (hn : Bd A n) (hd : Bd B d) : Bd A (frac n d).1 ∧ Bd B (frac n d).2 := ⟨hn.tdiv, hd.tdiv⟩
theorem foot_bd {ps : List Pt} {X Y D : Int} {s : Nat} (ha : areP ps = true) (hs : s < ps.length) (hX : Bd 400000 X) (hY : Bd 400000 Y) (hD : Bd 30000 D) :
    Bd 1000000000 (foot ps (X, Y, D) s).1 ∧ Bd 1000000000 (foot ps (X, Y, D) s).2 := by
  obtain ⟨hax, hay⟩ := alongS_bd ha hs
  obtain ⟨hcx, hcy⟩ := ptAt_bd ha hs
  obtain ⟨hix, hiy⟩ := inw_bd hX hY hD hcx hcy
  exact frac_bd (((hix.mul hax).add (hiy.mul hay)).mono (by omega)) ((hD.mul ((hax.mul hax).add (hay.mul hay))).mono (by omega))
set_option maxRecDepth 100000 in
set_option maxHeartbeats 800000 in
theorem isRest_any (ps : List Pt) (b c : Nat) (X Y D : Int) (s : Nat) (w : World) (hp : PtsAt w b 0 ps) (ha : areP ps = true) (hs : s < ps.length) (hX : Bd 400000 X) (hY : Bd 400000 Y) (hD : Bd 30000 D) (h0 : 0 < D) (hne : 0 < dt (alongS ps s) (alongS ps s)) :
    Calls Try.prog 69 #[.agg #[.slice (some ⟨b, 0, none⟩) ps.length c, .int .i64 X, .int .i64 Y, .int .i64 D], .int .i64 (s : Int)] w fun e w' => e = .returned (.bool (restB ps (X, Y, D) s)) ∧ Below w.heap.size w w' := by
  have HF := Lib.hid (fun W (h : PtsAt W b 0 ps) => foot_any ps b c X Y D s W h ha hs hX hY hD h0 hne)
  obtain ⟨f1, f2⟩ := foot_bd ha hs hX hY hD
  have F1 := Lib.hid (f1.mono (C := 1000000000000000000) (by omega))
  have F2 := Lib.hid f2
  have HPP := Lib.hid hp
  have fin : restB ps (X, Y, D) s = withinF ((foot ps (X, Y, D) s).1, (foot ps (X, Y, D) s).2) (0, 1) (1, 1) := rfl
  have Fin := Lib.hid fin
  clear fin f1 f2 hp ha hs hX hY hD h0 hne
  go_enter Try.func69, Try.ntmps69
  go_wp2_with fail
  obtain ⟨W0, hW0⟩ : ∃ W0, W0 = w.alloc (.cells #[.slice (some ⟨b, 0, none⟩) ps.length c, .int .i64 X, .int .i64 Y, .int .i64 D] 81) := ⟨_, rfl⟩
  have B0 := Lib.hid (show Below w.heap.size w W0 by rw [hW0]; exact ((Below.refl w.heap.size w).alloc (Nat.le_refl _) _))
  have sz := Lib.hid (show W0.heap.size = w.heap.size + 1 by rw [hW0]; simp)
  have P : Hid (∀ W, Below W0.heap.size W0 W → W.cell? ⟨w.heap.size, 0, none⟩ = some (.slice (some ⟨b, 0, none⟩) ps.length c) ∧ W.cell? ⟨w.heap.size, 1, none⟩ = some (.int .i64 X) ∧ W.cell? ⟨w.heap.size, 2, none⟩ = some (.int .i64 Y) ∧ W.cell? ⟨w.heap.size, 3, none⟩ = some (.int .i64 D)) := Lib.hid (fun W h => by
    have hsz := sz.out
    refine ⟨below_at h (by omega) ?_, below_at h (by omega) ?_, below_at h (by omega) ?_, below_at h (by omega) ?_⟩ <;> (rw [hW0]; simp [cell_al] <;> (intro h; omega)))
  rw [← hW0]
  clear hW0
  obtain ⟨p0, p1, p2, p3⟩ := P.out W0 (Below.refl _ _)
  have T0 := Lib.hid (Below.refl W0.heap.size W0)
  refine (HF.out W0 (HPP.out.grow B0.out)).mono ?_
  rintro e w1 ⟨rfl, hb⟩
  have T1 := Lib.hid (Below.andThen T0.out hb (Nat.le_refl _))
  clear hb T0 p0 p1 p2 p3
  obtain ⟨p0, p1, p2, p3⟩ := P.out w1 T1.out
  generalize foot ps (X, Y, D) s = fo at *
  go_wp2_with fail
  refine (whole_any 0 _).mono ?_
  rintro e w2 ⟨rfl, hb⟩
  have T2 := Lib.hid (Below.andThen T1.out hb (Nat.le_refl _))
  clear hb T1 p0 p1 p2 p3
  obtain ⟨p0, p1, p2, p3⟩ := P.out w2 T2.out
  go_wp2_with fail
  refine (whole_any 1 _).mono ?_
  rintro e w3 ⟨rfl, hb⟩
  have T3 := Lib.hid (Below.andThen T2.out hb (Nat.le_refl _))
  clear hb T2 p0 p1 p2 p3
  obtain ⟨p0, p1, p2, p3⟩ := P.out w3 T3.out
  go_wp2_with fail
  refine (within_any _ _ 0 1 _ F1.out F2.out (by unfold Bd; omega) (by unfold Bd; omega)).mono ?_
  rintro e w4 ⟨rfl, hb⟩
  have T4 := Lib.hid (Below.andThen T3.out hb (Nat.le_refl _))
  clear hb T3 p0 p1 p2 p3
  obtain ⟨p0, p1, p2, p3⟩ := P.out w4 T4.out
  go_wp2_with fail
  go_ret
  exact ⟨ret_bool (by rw [Fin.out]), Below.andThen B0.out T4.out (Nat.le_refl _)⟩
set_option maxRecDepth 100000 in
set_option maxHeartbeats 800000 in
theorem isFirm_any (ps : List Pt) (b c : Nat) (X Y D : Int) (s : Nat) (w : World) (hp : PtsAt w b 0 ps) (ha : areP ps = true) (hs : s < ps.length) (hX : Bd 400000 X) (hY : Bd 400000 Y) (hD : Bd 30000 D) (h0 : 0 < D) (hne : 0 < dt (alongS ps s) (alongS ps s)) :
    Calls Try.prog 70 #[.agg #[.slice (some ⟨b, 0, none⟩) ps.length c, .int .i64 X, .int .i64 Y, .int .i64 D], .int .i64 (s : Int)] w fun e w' => e = .returned (.bool (firmB ps (X, Y, D) s)) ∧ Below w.heap.size w w' := by
  have HF := Lib.hid (fun W (h : PtsAt W b 0 ps) => foot_any ps b c X Y D s W h ha hs hX hY hD h0 hne)
  have HR := Lib.hid (fun W (h : PtsAt W b 0 ps) => isRest_any ps b c X Y D s W h ha hs hX hY hD h0 hne)
  have HPP := Lib.hid hp
  have fin : firmB ps (X, Y, D) s = (restB ps (X, Y, D) s && decide ((foot ps (X, Y, D) s) ≠ (0, 1)) && decide ((foot ps (X, Y, D) s) ≠ (1, 1))) := rfl
  have Fin := Lib.hid fin
  have hlt := hp.lt
  clear fin hp ha hs hX hY hD h0 hne
  go_enter Try.func70, Try.ntmps70
  go_wp2_with fail
  obtain ⟨W0, hW0⟩ : ∃ W0, W0 = w.alloc (.cells #[.slice (some ⟨b, 0, none⟩) ps.length c, .int .i64 X, .int .i64 Y, .int .i64 D] 81) := ⟨_, rfl⟩
  have B0 := Lib.hid (show Below w.heap.size w W0 by rw [hW0]; exact ((Below.refl w.heap.size w).alloc (Nat.le_refl _) _))
  have sz := Lib.hid (show W0.heap.size = w.heap.size + 1 by rw [hW0]; simp)
  have P : Hid (∀ W, Below W0.heap.size W0 W → W.cell? ⟨w.heap.size, 0, none⟩ = some (.slice (some ⟨b, 0, none⟩) ps.length c) ∧ W.cell? ⟨w.heap.size, 1, none⟩ = some (.int .i64 X) ∧ W.cell? ⟨w.heap.size, 2, none⟩ = some (.int .i64 Y) ∧ W.cell? ⟨w.heap.size, 3, none⟩ = some (.int .i64 D)) := Lib.hid (fun W h => by
    have hsz := sz.out
    refine ⟨below_at h (by omega) ?_, below_at h (by omega) ?_, below_at h (by omega) ?_, below_at h (by omega) ?_⟩ <;> (rw [hW0]; simp [cell_al] <;> (intro h; omega)))
  rw [← hW0]
  clear hW0
  obtain ⟨p0, p1, p2, p3⟩ := P.out W0 (Below.refl _ _)
  have T0 := Lib.hid (Below.refl W0.heap.size W0)
  refine (HF.out W0 (HPP.out.grow B0.out)).mono ?_
  rintro e w1 ⟨rfl, hb⟩
  have T1 := Lib.hid (Below.andThen T0.out hb (Nat.le_refl _))
  clear hb T0 p0 p1 p2 p3
  obtain ⟨p0, p1, p2, p3⟩ := P.out w1 T1.out
  obtain ⟨fn, fd, hfo⟩ : ∃ fn fd, foot ps (X, Y, D) s = (fn, fd) := ⟨_, _, rfl⟩
  have HFO := Lib.hid hfo
  rw [hfo]
  clear hfo
  dsimp only
  obtain ⟨V, hV⟩ : ∃ V, V = w1.alloc (.cells #[.int .i64 fn, .int .i64 fd] 88) := ⟨_, rfl⟩
  have BV := Lib.hid (show Below W0.heap.size W0 V by rw [hV]; exact Below.al T1.out (Nat.le_refl _) _)
  have a0 : V.cell? ⟨w1.heap.size, 0, none⟩ = some (.int .i64 fn) := by rw [hV]; simp [cell_al]
  have a1 : V.cell? ⟨w1.heap.size, 1, none⟩ = some (.int .i64 fd) := by rw [hV]; simp [cell_al]
  have l2 : w1.heap.size < V.heap.size := by rw [hV]; simp
  go_wp2_with fail
  rw [← hV]
  clear hV p0 p1 p2 p3
  obtain ⟨p0, p1, p2, p3⟩ := P.out V BV.out
  have l0 : w.heap.size < V.heap.size := by have := BV.out.size; have := sz.out; omega
  have x0 := Kl.cell l0 p0
  have x1 := Kl.cell l0 p1
  have x2 := Kl.cell l0 p2
  have x3 := Kl.cell l0 p3
  have x4 := Kl.cell l2 a0
  have x5 := Kl.cell l2 a1
  have HPV := Lib.hid (fun (n : Kl V) => (HPP.out.grow (Below.andThen B0.out BV.out (Nat.le_refl _))).grow n.h)
  have e01 : ∀ x : Int, (x == 0) = decide (x = 0) := fun x => rfl
  cases hr : restB ps (X, Y, D) s
  · have HRR : Hid (∀ W, PtsAt W b 0 ps → Calls Try.prog 69 #[.agg #[.slice (some ⟨b, 0, none⟩) ps.length c, .int .i64 X, .int .i64 Y, .int .i64 D], .int .i64 (s : Int)] W fun e w' => e = .returned (.bool false) ∧ Below W.heap.size W w') := Lib.hid (fun W h => by
      have := HR.out W h; rw [hr] at this; exact this)
    have HN := Lib.hid hr
    clear hr HR
    refine wp_region_below (by kernel_rfl) (by kernel_rfl) ?_
    repeat (go_big_quiet_step (first | (go_at_call 69; exact Kl.call (HRR.out _ (HPV.out _))) | (go_at_call 78; exact Kl.call (whole_any _ _))))
    refine wpQuiet_nil ?_
    rintro _ ⟨wq, rfl⟩
    go_wp2_with fail
    go_ret
    exact ⟨ret_bool (by rw [Fin.out, HN.out]; rfl), Below.andThen B0.out (Below.andThen BV.out wq.h (Nat.le_refl _)) (Nat.le_refl _)⟩
  · have HRR : Hid (∀ W, PtsAt W b 0 ps → Calls Try.prog 69 #[.agg #[.slice (some ⟨b, 0, none⟩) ps.length c, .int .i64 X, .int .i64 Y, .int .i64 D], .int .i64 (s : Int)] W fun e w' => e = .returned (.bool true) ∧ Below W.heap.size W w') := Lib.hid (fun W h => by
      have := HR.out W h; rw [hr] at this; exact this)
    have HN := Lib.hid hr
    clear hr HR
    have hsp : (fn = 0 ∨ fn = 1 ∨ (¬ fn = 0 ∧ ¬ fn = 1)) ∧ (fd = 1 ∨ ¬ fd = 1) := by omega
    obtain ⟨rfl | rfl | ⟨hn0, hn1⟩, rfl | hd1⟩ := hsp
    all_goals
      refine wp_region_below (by kernel_rfl) (by kernel_rfl) ?_
      repeat (go_big_quiet_step (first | (go_at_call 69; exact Kl.call (HRR.out _ (HPV.out _))) | (go_at_call 78; exact Kl.call (whole_any _ _))))
      refine wpQuiet_nil ?_
      rintro _ ⟨wq, rfl⟩
      go_wp2_with fail
      go_ret
      exact ⟨ret_bool (by rw [Fin.out, HN.out, HFO.out]; simp [*]), Below.andThen B0.out (Below.andThen BV.out wq.h (Nat.le_refl _)) (Nat.le_refl _)⟩
end Go.Proofs.Ytlehddifcjklgaa
