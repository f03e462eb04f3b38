import Derived.Test.YtbhlddfjfcmncaaZq
import Derived.Test.YtbhlddfjfcmncaaYn
import Derived.Test.YtbhlddfjfcmncaaYk
import Derived.Maps.OwnIn
import Derived.Maps.OwnSet
import Derived.RangeFuncNested
import Derived.RangeFuncBound
import Derived.RangeFuncCalls
import Derived.RangeFuncLeaves
import Derived.Shelf.Abstract
import Derived.Shelf.RegionOpen
import Derived.WalkKit
import Derived.OwnWalkIn
import Derived.TacticsInMore
import Derived.LoopNIn
import Derived.LoopIn
import Derived.WalkSpells
import Derived.WalkLawsBesides
import Derived.BigQuiet
import Derived.Deep.QuietTactic
import Derived.Lib.Hide
import Derived.Deep.RegionHeld3
import Derived.StillTailTactics
import Derived.Lib.MakeNoZero
import Derived.Laws.CopyOwn
import Derived.Deep.RegionLaw
import Derived.Deep.LoopGhost
import Derived.Deep.CutBlock
import Derived.Deep.DeepCutAuto
import Derived.Lib.IndexAny
namespace Go.Proofs.Ytbhlddfjfcmncaa
open Go.RowKit Go.Shelf
attribute [local go_sem] Oper.semAt_some
theorem same_cases (f r g s : ByteArray) (ht : tideB (f, r) = true) (hu : tideB (g, s) = true) :
    ((∀ W, Calls Try.prog 24 #[.agg #[.string f, .string r], .agg #[.string g, .string s]] W fun e w' => e = .returned (.tuple #[.int .i64 0, .bool true, .int .i64 0]) ∧ Below W.heap.size W w') ∧
      (∀ W, Calls Try.prog 45 #[.agg #[.string f, .string r], .agg #[.string g, .string s]] W fun e w' => e = .returned (.int .i64 (-1)) ∧ Below W.heap.size W w')) ∨
    ∃ d : Nat, d ≤ 100000 ∧ (∀ W, Calls Try.prog 24 #[.agg #[.string f, .string r], .agg #[.string g, .string s]] W fun e w' => e = .returned (.tuple #[.int .i64 d, .bool false, .int .i64 0]) ∧ Below W.heap.size W w') ∧
      (∀ W, Calls Try.prog 45 #[.agg #[.string f, .string r], .agg #[.string g, .string s]] W fun e w' => e = .returned (.int .i64 d) ∧ Below W.heap.size W w') := by
  obtain ⟨z1, z2, z3⟩ := tideB_size ht
  obtain ⟨y1, y2, y3⟩ := tideB_size hu
  rcases same_split ht hu with h | ⟨d, h1, h2, h3⟩
  · exact .inl ⟨fun W => Same_yes f r g s W ht hu h, fun W => refDiffer_any f r g s _ (-1) W ht hu (fun i _ => h i) (.inl ⟨rfl, rfl⟩)⟩
  · have hb := spanR_bd z3 z2 y3 y2
    have hS : spanF f g ≤ f.size + g.size := spanF_le
    refine .inr ⟨d, by omega, fun W => Same_no f r g s W ht hu d h1 h2 h3, fun W => refDiffer_any f r g s d d W ht hu h3 (.inr ⟨?_, h2, rfl⟩)⟩
    unfold enoughN; omega
theorem self_form (f r : ByteArray) (ht : tideB (f, r) = true) : ∃ p q : ByteArray,
    (∀ W, Calls Try.prog 43 #[.agg #[.string f, .string r]] W fun e w' => e = .returned (.agg #[.string p, .string q]) ∧ Below W.heap.size W w') ∧
    (∀ W, Calls Try.prog 24 #[.agg #[.string f, .string r], .agg #[.string p, .string q]] W fun e w' => e = .returned (.tuple #[.int .i64 0, .bool true, .int .i64 0]) ∧ Below W.heap.size W w') := by
  have hO := (told_form ht).1
  obtain ⟨K, D, hF, _, _, e1, e2⟩ := hO.ex
  refine ⟨toS (rowF (hasB f r) K), toS (rowR (hasB f r) K D), fun W => refForm_any f r W ht K D hF, fun W => Same_yes f r _ _ W ht ?_ ?_⟩
  · rw [← e1, ← e2]; exact hO.tide
  · intro i; rw [← e1, ← e2]; exact (hO.has i).symm
set_option maxRecDepth 100000 in
set_option maxHeartbeats 4000000 in
theorem TideSame_any (f r g s : ByteArray) (w : World) (x1 : f.size ≤ 9223372036854775807) (x2 : r.size ≤ 9223372036854775807) (x3 : g.size ≤ 9223372036854775807) (x4 : s.size ≤ 9223372036854775807) :
    Calls Try.prog 6 #[.agg #[.string f, .string r], .agg #[.string g, .string s]] w fun e w' => e = .returned (.bool true) ∧ Below w.heap.size w w' := by
  have HT : Hid (∀ (f r : ByteArray) W, f.size ≤ 9223372036854775807 → r.size ≤ 9223372036854775807 → Calls Try.prog 37 #[.agg #[.string f, .string r], .int .i64 60] W fun e w' => e = .returned (.agg #[.string (bitsV f 60), .string (tameR r 60)]) ∧ Below W.heap.size W w') := Lib.hid (fun f r W hf hr => tame_any f r 60 W hf hr (by omega))
  obtain ⟨ht, m1, m2⟩ := tame_facts f r 60 (by omega) (by omega)
  obtain ⟨hu, m3, m4⟩ := tame_facts g s 60 (by omega) (by omega)
  have TT := Lib.hid ht
  have TU := Lib.hid hu
  clear ht hu
  go_enter Try.func6, Try.ntmps6
  go_wp2_with fail
  obtain ⟨W0, hW0⟩ : ∃ W0, W0 = (w.alloc (.cells #[.string f, .string r] 23)).alloc (.cells #[.string g, .string s] 23) := ⟨_, rfl⟩
  rw [← hW0]
  have B0 : Hid (Below w.heap.size w W0) := Lib.hid (by rw [hW0]; exact ((Below.refl _ _).alloc (Nat.le_refl _) _).alloc (by simp) _)
  have s0 : Hid (W0.heap.size = w.heap.size + 2) := Lib.hid (by rw [hW0, size_al, size_al])
  have P : Hid (∀ W, Below W0.heap.size W0 W → W.cell? ⟨w.heap.size, 0, none⟩ = some (.string f) ∧ W.cell? ⟨w.heap.size, 1, none⟩ = some (.string r) ∧ W.cell? ⟨w.heap.size + 1, 0, none⟩ = some (.string g) ∧ W.cell? ⟨w.heap.size + 1, 1, none⟩ = some (.string s)) := Lib.hid (fun W h => by
    have := s0.out
    refine ⟨below_at h (by omega) ?_, below_at h (by omega) ?_, below_at h (by omega) ?_, below_at h (by omega) ?_⟩ <;> (rw [hW0]; simp [cell_al] <;> (intro h; omega)))
  clear hW0
  refine wp_region_slots (by kernel_rfl) (by kernel_rfl) [14, 15, 16, 17, 5, 6] (twoJ W0 (.agg #[.string f, .string r]) (.agg #[.string g, .string s]) (bitsV f 60) (tameR r 60) (bitsV g 60) (tameR s 60)) ⟨[undef, undef, undef, undef, undef, undef], rfl, false, false, false, false, false, false, false, false, _, _, _, _, _, _, rfl, rfl, ⟨(Below.refl _ _).drew, nofun, nofun, nofun, nofun, nofun, nofun, nofun, nofun, nofun⟩⟩ ?_ ?_
  · rintro i o bs vs W K ho ⟨b0, b1, b2, b3, b4, b5, b6, b7, v0, v1, v2, v3, v4, v5, rfl, rfl, J⟩ _ hb hw hK
    have HK := Lib.hid hK
    have HJ := Lib.hid J
    have HW := Lib.hid hw
    clear hK J hw
    match i with
    | 0 =>
      refine wpOp_of_list rfl ?_
      simp only [putAll, Act.put, List.setIfInBounds_toArray, List.set_cons_succ, List.set_cons_zero]
      obtain ⟨d0, d1, _, _⟩ := P.out W HJ.out.below
      clear HT hb ho
      go_wp2_with fail
      exact HK.out [.agg #[.string f, .string r], v1, v2, v3, v4, v5] _ ⟨true, b1, b2, b3, b4, b5, b6, b7, _, _, _, _, _, _, rfl, rfl, HJ.out.load0⟩
    | 2 =>
      refine wpOp_of_list rfl ?_
      simp only [putAll, Act.put, List.setIfInBounds_toArray, List.set_cons_succ, List.set_cons_zero]
      obtain ⟨_, _, d0, d1⟩ := P.out W HJ.out.below
      clear HT hb ho
      go_wp2_with fail
      exact HK.out [v0, v1, .agg #[.string g, .string s], v3, v4, v5] _ ⟨b0, b1, true, b3, b4, b5, b6, b7, _, _, _, _, _, _, rfl, rfl, HJ.out.load1⟩
    | 1 =>
      obtain rfl : _ = o := Option.some.inj ho
      have e1 : b0 = true := HW.out ⟨0, .data⟩ (by simp) rfl
      obtain rfl := HJ.out.l0 e1
      refine wpOp_of_list rfl ?_
      simp only [putAll, Act.put, List.setIfInBounds_toArray, List.set_cons_succ, List.set_cons_zero]
      clear hb ho
      go_wp2_with fail
      refine (HT.out _ _ _ x1 x2).mono ?_
      rintro e W' ⟨rfl, hb⟩
      have HB := Lib.hid hb
      clear hb
      go_wp2_with fail
      exact HK.out [_, .agg #[.string (bitsV f 60), .string (tameR r 60)], v2, v3, v4, v5] _ ⟨b0, true, b2, b3, b4, b5, b6, b7, _, _, _, _, _, _, rfl, rfl, HJ.out.call0 HB.out⟩
    | 3 =>
      obtain rfl : _ = o := Option.some.inj ho
      have e1 : b2 = true := HW.out ⟨2, .data⟩ (by simp) rfl
      obtain rfl := HJ.out.l1 e1
      refine wpOp_of_list rfl ?_
      simp only [putAll, Act.put, List.setIfInBounds_toArray, List.set_cons_succ, List.set_cons_zero]
      clear hb ho
      go_wp2_with fail
      refine (HT.out _ _ _ x3 x4).mono ?_
      rintro e W' ⟨rfl, hb⟩
      have HB := Lib.hid hb
      clear hb
      go_wp2_with fail
      exact HK.out [v0, v1, _, .agg #[.string (bitsV g 60), .string (tameR s 60)], v4, v5] _ ⟨b0, b1, b2, true, b4, b5, b6, b7, _, _, _, _, _, _, rfl, rfl, HJ.out.call1 HB.out⟩
    | 4 =>
      have e4 : b4 = false := by simpa using hb
      subst e4
      refine wpOp_of_list rfl ?_
      simp only [putAll, Act.put, List.setIfInBounds_toArray, List.set_cons_succ, List.set_cons_zero]
      clear hb ho
      go_wp2_with fail
      exact HK.out [v0, v1, v2, v3, .pointer (some ⟨W.heap.size, 0, none⟩), v5] _ ⟨b0, b1, b2, b3, true, b5, b6, b7, _, _, _, _, _, _, rfl, rfl, HJ.out.alloc0 24⟩
    | 5 =>
      have e4 : b5 = false := by simpa using hb
      subst e4
      refine wpOp_of_list rfl ?_
      simp only [putAll, Act.put, List.setIfInBounds_toArray, List.set_cons_succ, List.set_cons_zero]
      clear hb ho
      go_wp2_with fail
      exact HK.out [v0, v1, v2, v3, v4, .pointer (some ⟨W.heap.size, 0, none⟩)] _ ⟨b0, b1, b2, b3, b4, true, b6, b7, _, _, _, _, _, _, rfl, rfl, HJ.out.alloc1 24⟩
    | 6 =>
      obtain rfl : _ = o := Option.some.inj ho
      have e1 : b1 = true := HW.out ⟨1, .data⟩ (by simp) rfl
      have e4 : b4 = true := HW.out ⟨4, .data⟩ (by simp) rfl
      subst e4
      obtain rfl := HJ.out.c0 e1
      obtain ⟨p, rfl, hp⟩ := HJ.out.a0 rfl
      obtain ⟨_, p1, p2, p3, p4, p5⟩ := hp
      refine wpOp_of_list rfl ?_
      simp only [putAll, Act.put, List.setIfInBounds_toArray, List.set_cons_succ, List.set_cons_zero]
      clear hb ho
      go_wp2_with fail
      exact HK.out [v0, _, v2, v3, .pointer (some ⟨p, 0, none⟩), v5] _ ⟨b0, b1, b2, b3, true, b5, true, b7, _, _, _, _, _, _, rfl, rfl, HJ.out.store0⟩
    | 7 =>
      obtain rfl : _ = o := Option.some.inj ho
      have e1 : b3 = true := HW.out ⟨3, .data⟩ (by simp) rfl
      have e4 : b5 = true := HW.out ⟨5, .data⟩ (by simp) rfl
      subst e4
      obtain rfl := HJ.out.c1 e1
      obtain ⟨p, rfl, hp⟩ := HJ.out.a1 rfl
      obtain ⟨_, p1, p2, p3, p4, p5⟩ := hp
      refine wpOp_of_list rfl ?_
      simp only [putAll, Act.put, List.setIfInBounds_toArray, List.set_cons_succ, List.set_cons_zero]
      clear hb ho
      go_wp2_with fail
      exact HK.out [v0, v1, v2, _, v4, .pointer (some ⟨p, 0, none⟩)] _ ⟨b0, b1, b2, b3, b4, true, b6, true, _, _, _, _, _, _, rfl, rfl, HJ.out.store1⟩
    | i + 8 => simp at hb
  · rintro vs W ⟨b0, b1, b2, b3, b4, b5, b6, b7, v0, v1, v2, v3, v4, v5, hbs, rfl, J⟩
    simp only [List.length_cons, List.length_nil, List.replicate_succ, List.replicate_zero, List.cons.injEq, and_true] at hbs
    obtain ⟨rfl, rfl, rfl, rfl, rfl, rfl, rfl, rfl⟩ := hbs
    obtain rfl := J.l0 rfl
    obtain rfl := J.c0 rfl
    obtain rfl := J.l1 rfl
    obtain rfl := J.c1 rfl
    obtain ⟨p, rfl, hp⟩ := J.a0 rfl
    obtain ⟨q, rfl, hq⟩ := J.a1 rfl
    simp only [if_true] at hp hq
    have T := Lib.hid (B0.out.trans (J.below.mono (by have := s0.out; omega)))
    have C := Lib.hid (show Two W p (bitsV f 60) (tameR r 60) from ⟨hp.2.1, hp.2.2.1, hp.2.2.2.1⟩)
    have D := Lib.hid (show Two W q (bitsV g 60) (tameR s 60) from ⟨hq.2.1, hq.2.2.1, hq.2.2.2.1⟩)
    clear J hp hq HT P B0 s0
    generalize bitsV f 60 = F at *
    generalize tameR r 60 = R at *
    generalize bitsV g 60 = G at *
    generalize tameR s 60 = S at *
    simp only [putAll, Act.put, List.setIfInBounds_toArray, List.set_cons_succ, List.set_cons_zero]
    obtain ⟨p1, p2, HF, HS⟩ := self_form F R TT.out
    have HF := Lib.hid HF
    have HS := Lib.hid HS
    have GV : Hid (∀ (f r : ByteArray) W, Calls Try.prog 18 #[.agg #[.string f, .string r]] W fun e w' => e = .returned (.agg #[.string f, .string r]) ∧ Below W.heap.size W w') := Lib.hid given_any
    rcases same_cases F R G S TT.out TU.out with ⟨c1, c2⟩ | ⟨d, hd, c1, c2⟩
    all_goals
      have H1 := Lib.hid c1
      have H2 := Lib.hid c2
      clear c1 c2
      have k0 := Kl.cell C.out.1 C.out.2.1
      have k1 := Kl.cell C.out.1 C.out.2.2
      have k2 := Kl.cell D.out.1 D.out.2.1
      have k3 := Kl.cell D.out.1 D.out.2.2
      go_wp2_with fail
      refine wp_region_below (by kernel_rfl) (by kernel_rfl) ?_
      repeat (go_big_quiet_step (first | exact Kl.call (GV.out _ _ _) | exact Kl.call (H1.out _)))
      refine wpQuiet_nil ?_
      rintro _ ⟨wq, rfl⟩
      clear k0 k1 k2 k3
      replace T := Lib.hid (Below.andThen T.out wq.h (Nat.le_refl _))
      replace C := Lib.hid (C.out.below wq.h)
      replace D := Lib.hid (D.out.below wq.h)
      have k0 := Kl.cell C.out.1 C.out.2.1
      have k1 := Kl.cell C.out.1 C.out.2.2
      go_wp2_with fail
      refine wp_region_below (by kernel_rfl) (by kernel_rfl) ?_
      repeat (go_big_quiet_step (first | exact Kl.call (GV.out _ _ _) | exact Kl.call (HF.out _) | exact Kl.call (HS.out _)))
      refine wpQuiet_nil ?_
      rintro _ ⟨wr, rfl⟩
      clear k0 k1
      replace T := Lib.hid (Below.andThen T.out wr.h (Nat.le_refl _))
      replace C := Lib.hid (C.out.below wr.h)
      replace D := Lib.hid (D.out.below wr.h)
      have d0 := C.out.2.1
      have d1 := C.out.2.2
      have d2 := D.out.2.1
      have d3 := D.out.2.2
      go_wp2_with fail
      refine (H2.out _).mono ?_
      rintro e w4 ⟨rfl, hb⟩
      clear d0 d1 d2 d3
      replace T := Lib.hid (Below.andThen T.out hb (Nat.le_refl _))
      clear hb H1 H2 HF HS
      go_wp2_with fail
      refine (awake_any _).mono ?_
      rintro e vz ⟨rfl, hb⟩
      replace T := Lib.hid (Below.andThen T.out hb (Nat.le_refl _))
      clear hb
      go_wp2_with fail
      exact bodyPost_ret (v := .bool true) (by simp [results, Try.results6, go_sem]) rfl ⟨rfl, T.out⟩
end Go.Proofs.Ytbhlddfjfcmncaa
