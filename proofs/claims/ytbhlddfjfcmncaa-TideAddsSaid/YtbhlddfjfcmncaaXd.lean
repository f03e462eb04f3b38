import Derived.Test.YtbhlddfjfcmncaaXc
import Derived.Maps.OwnIn
import Derived.Maps.OwnSet
import Derived.RangeFuncNested
import Derived.RangeFuncBound
import Derived.RangeFuncCalls
import Derived.RangeFuncLeaves
import Derived.Shelf.Abstract
import Derived.Shelf.RegionOpen
import Derived.WalkKit
import Derived.OwnWalkIn
import Derived.TacticsInMore
import Derived.LoopNIn
import Derived.LoopIn
import Derived.WalkSpells
import Derived.WalkLawsBesides
import Derived.BigQuiet
import Derived.Deep.QuietTactic
import Derived.Lib.Hide
import Derived.Deep.RegionHeld3
import Derived.StillTailTactics
import Derived.Lib.MakeNoZero
import Derived.Laws.CopyOwn
import Derived.Deep.RegionLaw
import Derived.Deep.LoopGhost
import Derived.Deep.CutBlock
import Derived.Deep.DeepCutAuto
import Derived.Lib.IndexAny
namespace Go.Proofs.Ytbhlddfjfcmncaa
open Go.RowKit Go.Shelf
attribute [local go_sem] Oper.semAt_some
set_option maxRecDepth 100000 in
set_option maxHeartbeats 20000000 in
theorem TideAdds_any (f r g s h u : ByteArray) (w : World) (k1 : f.size ≤ 9223372036854775807) (k2 : r.size ≤ 9223372036854775807) (k3 : g.size ≤ 9223372036854775807) (k4 : s.size ≤ 9223372036854775807) (k5 : h.size ≤ 9223372036854775807) (k6 : u.size ≤ 9223372036854775807) :
    Calls Try.prog 14 #[.agg #[.string f, .string r], .agg #[.string g, .string s], .agg #[.string h, .string u]] w fun e w' => e = .returned (.bool true) ∧ Below w.heap.size w w' := by
  have HT : Hid (∀ (f r : ByteArray) W, f.size ≤ 9223372036854775807 → r.size ≤ 9223372036854775807 → Calls Try.prog 37 #[.agg #[.string f, .string r], .int .i64 5] W fun e w' => e = .returned (.agg #[.string (bitsV f 5), .string (tameR r 5)]) ∧ Below W.heap.size W w') := Lib.hid (fun f r W hf hr => tame_any f r 5 W hf hr (by omega))
  obtain ⟨ht, m1, m2⟩ := tame_facts f r 5 (by omega) (by omega)
  obtain ⟨hu, m3, m4⟩ := tame_facts g s 5 (by omega) (by omega)
  obtain ⟨hv, m5, m6⟩ := tame_facts h u 5 (by omega) (by omega)
  have TT := Lib.hid ht
  have TU := Lib.hid hu
  have TV := Lib.hid hv
  clear ht hu hv
  go_enter Try.func14, Try.ntmps14
  go_wp2_with fail
  obtain ⟨W0, hW0⟩ : ∃ W0, W0 = ((w.alloc (.cells #[.string f, .string r] 23)).alloc (.cells #[.string g, .string s] 23)).alloc (.cells #[.string h, .string u] 23) := ⟨_, rfl⟩
  rw [← hW0]
  have B0 : Hid (Below w.heap.size w W0) := Lib.hid (by rw [hW0]; exact (((Below.refl _ _).alloc (Nat.le_refl _) _).alloc (by simp) _).alloc (by simp; omega) _)
  have s0 : Hid (W0.heap.size = w.heap.size + 3) := Lib.hid (by rw [hW0, size_al, size_al, size_al])
  have P : Hid (∀ W, Below W0.heap.size W0 W → W.cell? ⟨w.heap.size, 0, none⟩ = some (.string f) ∧ W.cell? ⟨w.heap.size, 1, none⟩ = some (.string r) ∧ W.cell? ⟨w.heap.size + 1, 0, none⟩ = some (.string g) ∧ W.cell? ⟨w.heap.size + 1, 1, none⟩ = some (.string s) ∧ W.cell? ⟨w.heap.size + 1 + 1, 0, none⟩ = some (.string h) ∧ W.cell? ⟨w.heap.size + 1 + 1, 1, none⟩ = some (.string u)) := Lib.hid (fun W h => by
    have := s0.out
    refine ⟨below_at h (by omega) ?_, below_at h (by omega) ?_, below_at h (by omega) ?_, below_at h (by omega) ?_, below_at h (by omega) ?_, below_at h (by omega) ?_⟩ <;> (rw [hW0]; simp [cell_al] <;> (intro h; omega)))
  clear hW0
  refine wp_region_slots (by kernel_rfl) (by kernel_rfl) [34, 35, 36, 37, 38, 39, 40, 41, 42, 7, 8, 9] (threeJ W0 (.agg #[.string f, .string r]) (.agg #[.string g, .string s]) (.agg #[.string h, .string u]) (bitsV f 5) (tameR r 5) (bitsV g 5) (tameR s 5) (bitsV h 5) (tameR u 5)) ⟨[undef, undef, undef, undef, undef, undef, undef, undef, undef, undef, undef, undef], by simp only [putAll, Act.put, List.setIfInBounds_toArray, List.set_cons_succ, List.set_cons_zero], threeJ_start _ _ _ _ _ _ _ _ _ _ _ _ _ _ _ _ _ _ _ _ _ _⟩ ?_ ?_
  · rintro i o bs vs W K ho ⟨l0, m0, c0, l1, m1, c1, l2, m2, c2, a0, a1, a2, s0, s1, s2, x0, y0, z0, x1, y1, z1, x2, y2, z2, p0, p1, p2, rfl, rfl, J⟩ _ hb hw hK
    have HK := Lib.hid hK
    have HJ := Lib.hid J
    have HW := Lib.hid hw
    clear hK J hw
    match i with
    | 0 =>
      refine wpOp_of_list rfl ?_
      simp only [putAll, Act.put, List.setIfInBounds_toArray, List.set_cons_succ, List.set_cons_zero]
      obtain ⟨d0, d1, _, _, _, _⟩ := P.out W HJ.out.below
      clear HT hb ho
      go_wp2_with fail
      have fin := HK.out [.agg #[.string f, .string r], y0, z0, x1, y1, z1, x2, y2, z2, p0, p1, p2] _ (threeJ_mk ⟨HJ.out.below, HJ.out.o0.load, HJ.out.o1, HJ.out.o2, HJ.out.n01, HJ.out.n02, HJ.out.n12⟩)
      simp only [putAll, Act.put, List.setIfInBounds_toArray, List.set_cons_succ, List.set_cons_zero] at fin
      exact fin
    | 1 =>
      obtain rfl : _ = o := Option.some.inj ho
      have e1 : l0 = true := HW.out ⟨0, .data⟩ (by simp) rfl
      obtain rfl := HJ.out.o0.l e1
      refine wpOp_of_list rfl ?_
      simp only [putAll, Act.put, List.setIfInBounds_toArray, List.set_cons_succ, List.set_cons_zero]
      clear hb ho
      go_wp2_with fail
      refine (HT.out _ _ _ k1 k2).mono ?_
      rintro e W' ⟨rfl, hb⟩
      have HB := Lib.hid hb
      clear hb
      go_wp2_with fail
      have fin := HK.out [.agg #[.string f, .string r], .agg #[.string (bitsV f 5), .string (tameR r 5)], z0, x1, y1, z1, x2, y2, z2, p0, p1, p2] _ (threeJ_mk ⟨Below.andThen HJ.out.below HB.out (Nat.le_refl _), (HJ.out.o0.grow HB.out).mid, (HJ.out.o1.grow HB.out), (HJ.out.o2.grow HB.out), HJ.out.n01, HJ.out.n02, HJ.out.n12⟩)
      simp only [putAll, Act.put, List.setIfInBounds_toArray, List.set_cons_succ, List.set_cons_zero] at fin
      exact fin
    | 2 =>
      obtain rfl : _ = o := Option.some.inj ho
      have e1 : m0 = true := HW.out ⟨1, .data⟩ (by simp) rfl
      obtain rfl := HJ.out.o0.m e1
      refine wpOp_of_list rfl ?_
      simp only [putAll, Act.put, List.setIfInBounds_toArray, List.set_cons_succ, List.set_cons_zero]
      clear hb ho
      go_wp2_with fail
      refine (given_any _ _ _).mono ?_
      rintro e W' ⟨rfl, hb⟩
      have HB := Lib.hid hb
      clear hb
      go_wp2_with fail
      have fin := HK.out [x0, .agg #[.string (bitsV f 5), .string (tameR r 5)], .agg #[.string (bitsV f 5), .string (tameR r 5)], x1, y1, z1, x2, y2, z2, p0, p1, p2] _ (threeJ_mk ⟨Below.andThen HJ.out.below HB.out (Nat.le_refl _), (HJ.out.o0.grow HB.out).call, (HJ.out.o1.grow HB.out), (HJ.out.o2.grow HB.out), HJ.out.n01, HJ.out.n02, HJ.out.n12⟩)
      simp only [putAll, Act.put, List.setIfInBounds_toArray, List.set_cons_succ, List.set_cons_zero] at fin
      exact fin
    | 9 =>
      have e4 : a0 = false := by simpa using hb
      subst e4
      refine wpOp_of_list rfl ?_
      simp only [putAll, Act.put, List.setIfInBounds_toArray, List.set_cons_succ, List.set_cons_zero]
      clear hb ho
      go_wp2_with fail
      have fin := HK.out [x0, y0, z0, x1, y1, z1, x2, y2, z2, .pointer (some ⟨W.heap.size, 0, none⟩), p1, p2] _ (threeJ_mk ⟨HJ.out.below.alloc HJ.out.below.size _, (HJ.out.o0.alloc HJ.out.below.size 23), (HJ.out.o1.al _), (HJ.out.o2.al _), (fun _ e => (HJ.out.o1.fresh e).symm), (fun _ e => (HJ.out.o2.fresh e).symm), HJ.out.n12⟩)
      simp only [putAll, Act.put, List.setIfInBounds_toArray, List.set_cons_succ, List.set_cons_zero] at fin
      exact fin
    | 12 =>
      obtain rfl : _ = o := Option.some.inj ho
      have e1 : c0 = true := HW.out ⟨2, .data⟩ (by simp) rfl
      have e4 : a0 = true := HW.out ⟨9, .data⟩ (by simp) rfl
      subst e4
      obtain rfl := HJ.out.o0.c e1
      obtain ⟨p, rfl, hp⟩ := HJ.out.o0.a rfl
      obtain ⟨_, q1, q2, q3, q4, q5⟩ := hp
      refine wpOp_of_list rfl ?_
      simp only [putAll, Act.put, List.setIfInBounds_toArray, List.set_cons_succ, List.set_cons_zero]
      clear hb ho
      go_wp2_with fail
      have fin := HK.out [x0, y0, .agg #[.string (bitsV f 5), .string (tameR r 5)], x1, y1, z1, x2, y2, z2, .pointer (some ⟨p, 0, none⟩), p1, p2] _ (threeJ_mk ⟨(HJ.out.below.setCell (p := ⟨p, 0, none⟩) HJ.out.o0.le _).setCell (p := ⟨p, 1, none⟩) HJ.out.o0.le _, HJ.out.o0.store, (HJ.out.o1.other (fun e => (HJ.out.n01 rfl e).symm)), (HJ.out.o2.other (fun e => (HJ.out.n02 rfl e).symm)), HJ.out.n01, HJ.out.n02, HJ.out.n12⟩)
      simp only [putAll, Act.put, List.setIfInBounds_toArray, List.set_cons_succ, List.set_cons_zero] at fin
      exact fin
    | 3 =>
      refine wpOp_of_list rfl ?_
      simp only [putAll, Act.put, List.setIfInBounds_toArray, List.set_cons_succ, List.set_cons_zero]
      obtain ⟨_, _, d0, d1, _, _⟩ := P.out W HJ.out.below
      clear HT hb ho
      go_wp2_with fail
      have fin := HK.out [x0, y0, z0, .agg #[.string g, .string s], y1, z1, x2, y2, z2, p0, p1, p2] _ (threeJ_mk ⟨HJ.out.below, HJ.out.o0, HJ.out.o1.load, HJ.out.o2, HJ.out.n01, HJ.out.n02, HJ.out.n12⟩)
      simp only [putAll, Act.put, List.setIfInBounds_toArray, List.set_cons_succ, List.set_cons_zero] at fin
      exact fin
    | 4 =>
      obtain rfl : _ = o := Option.some.inj ho
      have e1 : l1 = true := HW.out ⟨3, .data⟩ (by simp) rfl
      obtain rfl := HJ.out.o1.l e1
      refine wpOp_of_list rfl ?_
      simp only [putAll, Act.put, List.setIfInBounds_toArray, List.set_cons_succ, List.set_cons_zero]
      clear hb ho
      go_wp2_with fail
      refine (HT.out _ _ _ k3 k4).mono ?_
      rintro e W' ⟨rfl, hb⟩
      have HB := Lib.hid hb
      clear hb
      go_wp2_with fail
      have fin := HK.out [x0, y0, z0, .agg #[.string g, .string s], .agg #[.string (bitsV g 5), .string (tameR s 5)], z1, x2, y2, z2, p0, p1, p2] _ (threeJ_mk ⟨Below.andThen HJ.out.below HB.out (Nat.le_refl _), (HJ.out.o0.grow HB.out), (HJ.out.o1.grow HB.out).mid, (HJ.out.o2.grow HB.out), HJ.out.n01, HJ.out.n02, HJ.out.n12⟩)
      simp only [putAll, Act.put, List.setIfInBounds_toArray, List.set_cons_succ, List.set_cons_zero] at fin
      exact fin
    | 5 =>
      obtain rfl : _ = o := Option.some.inj ho
      have e1 : m1 = true := HW.out ⟨4, .data⟩ (by simp) rfl
      obtain rfl := HJ.out.o1.m e1
      refine wpOp_of_list rfl ?_
      simp only [putAll, Act.put, List.setIfInBounds_toArray, List.set_cons_succ, List.set_cons_zero]
      clear hb ho
      go_wp2_with fail
      refine (given_any _ _ _).mono ?_
      rintro e W' ⟨rfl, hb⟩
      have HB := Lib.hid hb
      clear hb
      go_wp2_with fail
      have fin := HK.out [x0, y0, z0, x1, .agg #[.string (bitsV g 5), .string (tameR s 5)], .agg #[.string (bitsV g 5), .string (tameR s 5)], x2, y2, z2, p0, p1, p2] _ (threeJ_mk ⟨Below.andThen HJ.out.below HB.out (Nat.le_refl _), (HJ.out.o0.grow HB.out), (HJ.out.o1.grow HB.out).call, (HJ.out.o2.grow HB.out), HJ.out.n01, HJ.out.n02, HJ.out.n12⟩)
      simp only [putAll, Act.put, List.setIfInBounds_toArray, List.set_cons_succ, List.set_cons_zero] at fin
      exact fin
    | 10 =>
      have e4 : a1 = false := by simpa using hb
      subst e4
      refine wpOp_of_list rfl ?_
      simp only [putAll, Act.put, List.setIfInBounds_toArray, List.set_cons_succ, List.set_cons_zero]
      clear hb ho
      go_wp2_with fail
      have fin := HK.out [x0, y0, z0, x1, y1, z1, x2, y2, z2, p0, .pointer (some ⟨W.heap.size, 0, none⟩), p2] _ (threeJ_mk ⟨HJ.out.below.alloc HJ.out.below.size _, (HJ.out.o0.al _), (HJ.out.o1.alloc HJ.out.below.size 23), (HJ.out.o2.al _), (fun e _ => HJ.out.o0.fresh e), HJ.out.n02, (fun _ e => (HJ.out.o2.fresh e).symm)⟩)
      simp only [putAll, Act.put, List.setIfInBounds_toArray, List.set_cons_succ, List.set_cons_zero] at fin
      exact fin
    | 13 =>
      obtain rfl : _ = o := Option.some.inj ho
      have e1 : c1 = true := HW.out ⟨5, .data⟩ (by simp) rfl
      have e4 : a1 = true := HW.out ⟨10, .data⟩ (by simp) rfl
      subst e4
      obtain rfl := HJ.out.o1.c e1
      obtain ⟨p, rfl, hp⟩ := HJ.out.o1.a rfl
      obtain ⟨_, q1, q2, q3, q4, q5⟩ := hp
      refine wpOp_of_list rfl ?_
      simp only [putAll, Act.put, List.setIfInBounds_toArray, List.set_cons_succ, List.set_cons_zero]
      clear hb ho
      go_wp2_with fail
      have fin := HK.out [x0, y0, z0, x1, y1, .agg #[.string (bitsV g 5), .string (tameR s 5)], x2, y2, z2, p0, .pointer (some ⟨p, 0, none⟩), p2] _ (threeJ_mk ⟨(HJ.out.below.setCell (p := ⟨p, 0, none⟩) HJ.out.o1.le _).setCell (p := ⟨p, 1, none⟩) HJ.out.o1.le _, (HJ.out.o0.other (fun e => HJ.out.n01 e rfl)), HJ.out.o1.store, (HJ.out.o2.other (fun e => (HJ.out.n12 rfl e).symm)), HJ.out.n01, HJ.out.n02, HJ.out.n12⟩)
      simp only [putAll, Act.put, List.setIfInBounds_toArray, List.set_cons_succ, List.set_cons_zero] at fin
      exact fin
    | 6 =>
      refine wpOp_of_list rfl ?_
      simp only [putAll, Act.put, List.setIfInBounds_toArray, List.set_cons_succ, List.set_cons_zero]
      obtain ⟨_, _, _, _, d0, d1⟩ := P.out W HJ.out.below
      clear HT hb ho
      go_wp2_with fail
      have fin := HK.out [x0, y0, z0, x1, y1, z1, .agg #[.string h, .string u], y2, z2, p0, p1, p2] _ (threeJ_mk ⟨HJ.out.below, HJ.out.o0, HJ.out.o1, HJ.out.o2.load, HJ.out.n01, HJ.out.n02, HJ.out.n12⟩)
      simp only [putAll, Act.put, List.setIfInBounds_toArray, List.set_cons_succ, List.set_cons_zero] at fin
      exact fin
    | 7 =>
      obtain rfl : _ = o := Option.some.inj ho
      have e1 : l2 = true := HW.out ⟨6, .data⟩ (by simp) rfl
      obtain rfl := HJ.out.o2.l e1
      refine wpOp_of_list rfl ?_
      simp only [putAll, Act.put, List.setIfInBounds_toArray, List.set_cons_succ, List.set_cons_zero]
      clear hb ho
      go_wp2_with fail
      refine (HT.out _ _ _ k5 k6).mono ?_
      rintro e W' ⟨rfl, hb⟩
      have HB := Lib.hid hb
      clear hb
      go_wp2_with fail
      have fin := HK.out [x0, y0, z0, x1, y1, z1, .agg #[.string h, .string u], .agg #[.string (bitsV h 5), .string (tameR u 5)], z2, p0, p1, p2] _ (threeJ_mk ⟨Below.andThen HJ.out.below HB.out (Nat.le_refl _), (HJ.out.o0.grow HB.out), (HJ.out.o1.grow HB.out), (HJ.out.o2.grow HB.out).mid, HJ.out.n01, HJ.out.n02, HJ.out.n12⟩)
      simp only [putAll, Act.put, List.setIfInBounds_toArray, List.set_cons_succ, List.set_cons_zero] at fin
      exact fin
    | 8 =>
      obtain rfl : _ = o := Option.some.inj ho
      have e1 : m2 = true := HW.out ⟨7, .data⟩ (by simp) rfl
      obtain rfl := HJ.out.o2.m e1
      refine wpOp_of_list rfl ?_
      simp only [putAll, Act.put, List.setIfInBounds_toArray, List.set_cons_succ, List.set_cons_zero]
      clear hb ho
      go_wp2_with fail
      refine (given_any _ _ _).mono ?_
      rintro e W' ⟨rfl, hb⟩
      have HB := Lib.hid hb
      clear hb
      go_wp2_with fail
      have fin := HK.out [x0, y0, z0, x1, y1, z1, x2, .agg #[.string (bitsV h 5), .string (tameR u 5)], .agg #[.string (bitsV h 5), .string (tameR u 5)], p0, p1, p2] _ (threeJ_mk ⟨Below.andThen HJ.out.below HB.out (Nat.le_refl _), (HJ.out.o0.grow HB.out), (HJ.out.o1.grow HB.out), (HJ.out.o2.grow HB.out).call, HJ.out.n01, HJ.out.n02, HJ.out.n12⟩)
      simp only [putAll, Act.put, List.setIfInBounds_toArray, List.set_cons_succ, List.set_cons_zero] at fin
      exact fin
    | 11 =>
      have e4 : a2 = false := by simpa using hb
      subst e4
      refine wpOp_of_list rfl ?_
      simp only [putAll, Act.put, List.setIfInBounds_toArray, List.set_cons_succ, List.set_cons_zero]
      clear hb ho
      go_wp2_with fail
      have fin := HK.out [x0, y0, z0, x1, y1, z1, x2, y2, z2, p0, p1, .pointer (some ⟨W.heap.size, 0, none⟩)] _ (threeJ_mk ⟨HJ.out.below.alloc HJ.out.below.size _, (HJ.out.o0.al _), (HJ.out.o1.al _), (HJ.out.o2.alloc HJ.out.below.size 23), HJ.out.n01, (fun e _ => HJ.out.o0.fresh e), (fun e _ => HJ.out.o1.fresh e)⟩)
      simp only [putAll, Act.put, List.setIfInBounds_toArray, List.set_cons_succ, List.set_cons_zero] at fin
      exact fin
    | 14 =>
      obtain rfl : _ = o := Option.some.inj ho
      have e1 : c2 = true := HW.out ⟨8, .data⟩ (by simp) rfl
      have e4 : a2 = true := HW.out ⟨11, .data⟩ (by simp) rfl
      subst e4
      obtain rfl := HJ.out.o2.c e1
      obtain ⟨p, rfl, hp⟩ := HJ.out.o2.a rfl
      obtain ⟨_, q1, q2, q3, q4, q5⟩ := hp
      refine wpOp_of_list rfl ?_
      simp only [putAll, Act.put, List.setIfInBounds_toArray, List.set_cons_succ, List.set_cons_zero]
      clear hb ho
      go_wp2_with fail
      have fin := HK.out [x0, y0, z0, x1, y1, z1, x2, y2, .agg #[.string (bitsV h 5), .string (tameR u 5)], p0, p1, .pointer (some ⟨p, 0, none⟩)] _ (threeJ_mk ⟨(HJ.out.below.setCell (p := ⟨p, 0, none⟩) HJ.out.o2.le _).setCell (p := ⟨p, 1, none⟩) HJ.out.o2.le _, (HJ.out.o0.other (fun e => HJ.out.n02 e rfl)), (HJ.out.o1.other (fun e => HJ.out.n12 e rfl)), HJ.out.o2.store, HJ.out.n01, HJ.out.n02, HJ.out.n12⟩)
      simp only [putAll, Act.put, List.setIfInBounds_toArray, List.set_cons_succ, List.set_cons_zero] at fin
      exact fin
    | i + 15 => simp at hb
  · rintro vs W ⟨l0, m0, c0, l1, m1, c1, l2, m2, c2, a0, a1, a2, s0, s1, s2, x0, y0, z0, x1, y1, z1, x2, y2, z2, p0, p1, p2, hbs, rfl, J⟩
    simp only [List.length_cons, List.length_nil, List.replicate_succ, List.replicate_zero, List.cons.injEq, and_true] at hbs
    obtain ⟨rfl, rfl, rfl, rfl, rfl, rfl, rfl, rfl, rfl, rfl, rfl, rfl, rfl, rfl, rfl⟩ := hbs
    obtain rfl := J.o0.l rfl
    obtain rfl := J.o0.m rfl
    obtain rfl := J.o0.c rfl
    obtain ⟨b0, rfl, hp0⟩ := J.o0.a rfl
    obtain rfl := J.o1.l rfl
    obtain rfl := J.o1.m rfl
    obtain rfl := J.o1.c rfl
    obtain ⟨b1, rfl, hp1⟩ := J.o1.a rfl
    obtain rfl := J.o2.l rfl
    obtain rfl := J.o2.m rfl
    obtain rfl := J.o2.c rfl
    obtain ⟨b2, rfl, hp2⟩ := J.o2.a rfl
    simp only [if_true] at hp0 hp1 hp2
    have T := Lib.hid (B0.out.trans (J.below.mono (by have := s0.out; omega)))
    have C := Lib.hid (show Two W b0 (bitsV f 5) (tameR r 5) from ⟨hp0.2.1, hp0.2.2.1, hp0.2.2.2.1⟩)
    have D := Lib.hid (show Two W b1 (bitsV g 5) (tameR s 5) from ⟨hp1.2.1, hp1.2.2.1, hp1.2.2.2.1⟩)
    have E := Lib.hid (show Two W b2 (bitsV h 5) (tameR u 5) from ⟨hp2.2.1, hp2.2.2.1, hp2.2.2.2.1⟩)
    clear J hp0 hp1 hp2 HT P B0 s0
    generalize bitsV f 5 = F at *
    generalize tameR r 5 = R at *
    generalize bitsV g 5 = G at *
    generalize tameR s 5 = S at *
    generalize bitsV h 5 = H at *
    generalize tameR u 5 = U at *
    simp only [putAll, Act.put, List.setIfInBounds_toArray, List.set_cons_succ, List.set_cons_zero]
    obtain ⟨pa, qa, po, qo, pc, qc, pd, qd, pf, qf, AF⟩ := adds_facts TT.out TU.out TV.out m1 m2 m3 m4 m5 m6
    have AF := Lib.hid AF
    have d00 := C.out.2.1
    have d01 := C.out.2.2
    have d10 := D.out.2.1
    have d11 := D.out.2.2
    go_wp2_with fail
    refine (AF.out.c1 _).mono ?_
    rintro e u1 ⟨rfl, hb⟩
    clear d00 d01
    clear d10 d11
    replace T := Lib.hid (Below.al (Below.andThen T.out hb (Nat.le_refl _)) (Nat.le_refl _) (Obj.cells #[.string pa, .string qa] 23))
    replace C := Lib.hid ((C.out.below hb).alloc (Obj.cells #[.string pa, .string qa] 23))
    replace D := Lib.hid ((D.out.below hb).alloc (Obj.cells #[.string pa, .string qa] 23))
    replace E := Lib.hid ((E.out.below hb).alloc (Obj.cells #[.string pa, .string qa] 23))
    have EA := Lib.hid (Two.new u1 pa qa 23)
    clear hb
    have d00 := D.out.2.1
    have d01 := D.out.2.2
    have d10 := C.out.2.1
    have d11 := C.out.2.2
    go_wp2_with fail
    refine (AF.out.c2 _).mono ?_
    rintro e u2 ⟨rfl, hb⟩
    clear d00 d01
    clear d10 d11
    replace T := Lib.hid (Below.al (Below.andThen T.out hb (Nat.le_refl _)) (Nat.le_refl _) (Obj.cells #[.string pa, .string qa] 23))
    replace C := Lib.hid ((C.out.below hb).alloc (Obj.cells #[.string pa, .string qa] 23))
    replace D := Lib.hid ((D.out.below hb).alloc (Obj.cells #[.string pa, .string qa] 23))
    replace E := Lib.hid ((E.out.below hb).alloc (Obj.cells #[.string pa, .string qa] 23))
    replace EA := Lib.hid ((EA.out.below hb).alloc (Obj.cells #[.string pa, .string qa] 23))
    have EB := Lib.hid (Two.new u2 pa qa 23)
    clear hb
    have d00 := D.out.2.1
    have d01 := D.out.2.2
    have d10 := E.out.2.1
    have d11 := E.out.2.2
    go_wp2_with fail
    refine (AF.out.c3 _).mono ?_
    rintro e u3 ⟨rfl, hb⟩
    clear d00 d01
    clear d10 d11
    replace T := Lib.hid (Below.al (Below.andThen T.out hb (Nat.le_refl _)) (Nat.le_refl _) (Obj.cells #[.string po, .string qo] 23))
    replace C := Lib.hid ((C.out.below hb).alloc (Obj.cells #[.string po, .string qo] 23))
    replace D := Lib.hid ((D.out.below hb).alloc (Obj.cells #[.string po, .string qo] 23))
    replace E := Lib.hid ((E.out.below hb).alloc (Obj.cells #[.string po, .string qo] 23))
    replace EA := Lib.hid ((EA.out.below hb).alloc (Obj.cells #[.string po, .string qo] 23))
    replace EB := Lib.hid ((EB.out.below hb).alloc (Obj.cells #[.string po, .string qo] 23))
    have EO := Lib.hid (Two.new u3 po qo 23)
    clear hb
    have d00 := C.out.2.1
    have d01 := C.out.2.2
    have d10 := EO.out.2.1
    have d11 := EO.out.2.2
    go_wp2_with fail
    refine (AF.out.c4 _).mono ?_
    rintro e u4 ⟨rfl, hb⟩
    clear d00 d01
    clear d10 d11
    replace T := Lib.hid (Below.al (Below.andThen T.out hb (Nat.le_refl _)) (Nat.le_refl _) (Obj.cells #[.string pc, .string qc] 23))
    replace C := Lib.hid ((C.out.below hb).alloc (Obj.cells #[.string pc, .string qc] 23))
    replace D := Lib.hid ((D.out.below hb).alloc (Obj.cells #[.string pc, .string qc] 23))
    replace E := Lib.hid ((E.out.below hb).alloc (Obj.cells #[.string pc, .string qc] 23))
    replace EA := Lib.hid ((EA.out.below hb).alloc (Obj.cells #[.string pc, .string qc] 23))
    replace EB := Lib.hid ((EB.out.below hb).alloc (Obj.cells #[.string pc, .string qc] 23))
    replace EO := Lib.hid ((EO.out.below hb).alloc (Obj.cells #[.string pc, .string qc] 23))
    have EC := Lib.hid (Two.new u4 pc qc 23)
    clear hb
    have d00 := C.out.2.1
    have d01 := C.out.2.2
    have d10 := E.out.2.1
    have d11 := E.out.2.2
    go_wp2_with fail
    refine (AF.out.c5 _).mono ?_
    rintro e u5 ⟨rfl, hb⟩
    clear d00 d01
    clear d10 d11
    replace T := Lib.hid (Below.al (Below.andThen T.out hb (Nat.le_refl _)) (Nat.le_refl _) (Obj.cells #[.string pd, .string qd] 23))
    replace C := Lib.hid ((C.out.below hb).alloc (Obj.cells #[.string pd, .string qd] 23))
    replace D := Lib.hid ((D.out.below hb).alloc (Obj.cells #[.string pd, .string qd] 23))
    replace E := Lib.hid ((E.out.below hb).alloc (Obj.cells #[.string pd, .string qd] 23))
    replace EA := Lib.hid ((EA.out.below hb).alloc (Obj.cells #[.string pd, .string qd] 23))
    replace EB := Lib.hid ((EB.out.below hb).alloc (Obj.cells #[.string pd, .string qd] 23))
    replace EO := Lib.hid ((EO.out.below hb).alloc (Obj.cells #[.string pd, .string qd] 23))
    replace EC := Lib.hid ((EC.out.below hb).alloc (Obj.cells #[.string pd, .string qd] 23))
    have ED := Lib.hid (Two.new u5 pd qd 23)
    clear hb
    have d00 := EA.out.2.1
    have d01 := EA.out.2.2
    have d10 := ED.out.2.1
    have d11 := ED.out.2.2
    go_wp2_with fail
    refine (AF.out.c6 _).mono ?_
    rintro e u6 ⟨rfl, hb⟩
    clear d00 d01
    clear d10 d11
    replace T := Lib.hid (Below.al (Below.andThen T.out hb (Nat.le_refl _)) (Nat.le_refl _) (Obj.cells #[.string pc, .string qc] 23))
    replace C := Lib.hid ((C.out.below hb).alloc (Obj.cells #[.string pc, .string qc] 23))
    replace D := Lib.hid ((D.out.below hb).alloc (Obj.cells #[.string pc, .string qc] 23))
    replace E := Lib.hid ((E.out.below hb).alloc (Obj.cells #[.string pc, .string qc] 23))
    replace EA := Lib.hid ((EA.out.below hb).alloc (Obj.cells #[.string pc, .string qc] 23))
    replace EB := Lib.hid ((EB.out.below hb).alloc (Obj.cells #[.string pc, .string qc] 23))
    replace EO := Lib.hid ((EO.out.below hb).alloc (Obj.cells #[.string pc, .string qc] 23))
    replace EC := Lib.hid ((EC.out.below hb).alloc (Obj.cells #[.string pc, .string qc] 23))
    replace ED := Lib.hid ((ED.out.below hb).alloc (Obj.cells #[.string pc, .string qc] 23))
    have EK := Lib.hid (Two.new u6 pc qc 23)
    clear hb
    have d00 := C.out.2.1
    have d01 := C.out.2.2
    go_wp2_with fail
    refine (AF.out.c7 _).mono ?_
    rintro e u7 ⟨rfl, hb⟩
    clear d00 d01
    replace T := Lib.hid (Below.al (Below.andThen T.out hb (Nat.le_refl _)) (Nat.le_refl _) (Obj.cells #[.string pf, .string qf] 23))
    replace C := Lib.hid ((C.out.below hb).alloc (Obj.cells #[.string pf, .string qf] 23))
    replace D := Lib.hid ((D.out.below hb).alloc (Obj.cells #[.string pf, .string qf] 23))
    replace E := Lib.hid ((E.out.below hb).alloc (Obj.cells #[.string pf, .string qf] 23))
    replace EA := Lib.hid ((EA.out.below hb).alloc (Obj.cells #[.string pf, .string qf] 23))
    replace EB := Lib.hid ((EB.out.below hb).alloc (Obj.cells #[.string pf, .string qf] 23))
    replace EO := Lib.hid ((EO.out.below hb).alloc (Obj.cells #[.string pf, .string qf] 23))
    replace EC := Lib.hid ((EC.out.below hb).alloc (Obj.cells #[.string pf, .string qf] 23))
    replace ED := Lib.hid ((ED.out.below hb).alloc (Obj.cells #[.string pf, .string qf] 23))
    replace EK := Lib.hid ((EK.out.below hb).alloc (Obj.cells #[.string pf, .string qf] 23))
    have EF := Lib.hid (Two.new u7 pf qf 23)
    clear hb
    have d00 := C.out.2.1
    have d01 := C.out.2.2
    go_wp2_with fail
    refine (AF.out.c8 _).mono ?_
    rintro e u8 ⟨rfl, hb⟩
    clear d00 d01
    replace T := Lib.hid (Below.al (Below.andThen T.out hb (Nat.le_refl _)) (Nat.le_refl _) (Obj.cells #[.string pf, .string qf] 23))
    replace C := Lib.hid ((C.out.below hb).alloc (Obj.cells #[.string pf, .string qf] 23))
    replace D := Lib.hid ((D.out.below hb).alloc (Obj.cells #[.string pf, .string qf] 23))
    replace E := Lib.hid ((E.out.below hb).alloc (Obj.cells #[.string pf, .string qf] 23))
    replace EA := Lib.hid ((EA.out.below hb).alloc (Obj.cells #[.string pf, .string qf] 23))
    replace EB := Lib.hid ((EB.out.below hb).alloc (Obj.cells #[.string pf, .string qf] 23))
    replace EO := Lib.hid ((EO.out.below hb).alloc (Obj.cells #[.string pf, .string qf] 23))
    replace EC := Lib.hid ((EC.out.below hb).alloc (Obj.cells #[.string pf, .string qf] 23))
    replace ED := Lib.hid ((ED.out.below hb).alloc (Obj.cells #[.string pf, .string qf] 23))
    replace EK := Lib.hid ((EK.out.below hb).alloc (Obj.cells #[.string pf, .string qf] 23))
    replace EF := Lib.hid ((EF.out.below hb).alloc (Obj.cells #[.string pf, .string qf] 23))
    have EG := Lib.hid (Two.new u8 pf qf 23)
    clear hb
    have H0 := And.intro EA.out (And.intro EB.out (And.intro EC.out (And.intro EK.out (And.intro EF.out EG.out))))
    obtain ⟨⟨_, d0, d1⟩, ⟨_, d2, d3⟩, ⟨_, d4, d5⟩, ⟨_, d6, d7⟩, ⟨_, d8, d9⟩, ⟨_, d10, d11⟩⟩ := H0
    clear EB EC EK EF EG ED EO E
    go_wp2_with fail
    clear d0 d1 d2 d3 d4 d5 d6 d7 d8 d9 d10 d11
    generalize u8.alloc (Obj.cells #[.string pf, .string qf] 23) = V at *
    go_loopw [6, 26, 27, 28, 29, 30, 31, 32, 33] (fun _ x _ _ _ _ _ _ _ wr => ∃ i : Nat, i ≤ 12 ∧ x = .int .i64 i ∧ Hid (Below w.heap.size w wr) ∧ Hid (Two wr b0 F R) ∧ Hid (Two wr b1 G S) ∧ Hid (Two wr u1.heap.size pa qa)) (fun _ x _ _ _ _ _ _ _ _ => 12 - (intOf x).toNat)
    case atStart => exact ⟨0, by omega, rfl, T, C, D, EA⟩
    case round =>
      clear T C D EA
      obtain ⟨i, hi, rfl, T, C, D, EA⟩ := hrel
      by_cases hlt : i < 12
      · have t12 : decide ((i : Int) < 12) = true := decide_eq_true (by omega)
        go_wp2_with fail
        clear t12
        obtain ⟨wo, rfl⟩ : ∃ wo : World, wo = wr := ⟨_, rfl⟩
        go_loopw [6, 27, 28, 29, 30, 31, 32, 33] (fun _ x _ _ _ _ _ _ wr => ∃ j : Nat, j ≤ 12 ∧ x = .int .i64 j ∧ Hid (Below w.heap.size w wr) ∧ Hid (Two wr b0 F R) ∧ Hid (Two wr b1 G S) ∧ Hid (Two wr u1.heap.size pa qa)) (fun _ x _ _ _ _ _ _ _ => 12 - (intOf x).toNat)
        case atStart => exact ⟨0, by omega, rfl, T, C, D, EA⟩
        case round =>
          clear T C D EA
          obtain ⟨j, hj, rfl, T, C, D, EA⟩ := hrel
          by_cases hlt2 : j < 12
          · have E3 : Hid ((i : Int) + (j : Int) = ((i + j : Nat) : Int)) := Lib.hid (by omega)
            have hA := AF.out.ha i j
            cases hX : hasB F R i
            all_goals
              cases hY : hasB G S j
              all_goals
                first
                  | (have VA : Hid (hasB pa qa (i + j) = true) := Lib.hid (hA hX hY))
                  | skip
                have VX := Lib.hid hX
                have VY := Lib.hid hY
                clear hX hY hA
                have d00 := C.out.2.1
                have d01 := C.out.2.2
                go_wp2_with fail
                refine (Has_ok F R i _ TT.out (by omega)).mono ?_
                rintro e q1 ⟨rfl, hb⟩
                clear d00 d01
                replace T := Lib.hid (Below.andThen T.out hb (Nat.le_refl _))
                replace C := Lib.hid (C.out.below hb)
                replace D := Lib.hid (D.out.below hb)
                replace EA := Lib.hid (EA.out.below hb)
                clear hb
                rw [VX.out]
                have d00 := D.out.2.1
                have d01 := D.out.2.2
                go_wp2_with fail
                refine (Has_ok G S j _ TU.out (by omega)).mono ?_
                rintro e q2 ⟨rfl, hb⟩
                clear d00 d01
                replace T := Lib.hid (Below.andThen T.out hb (Nat.le_refl _))
                replace C := Lib.hid (C.out.below hb)
                replace D := Lib.hid (D.out.below hb)
                replace EA := Lib.hid (EA.out.below hb)
                clear hb
                rw [VY.out]
                have d00 := EA.out.2.1
                have d01 := EA.out.2.2
                go_wp2_with fail
                rw [E3.out]
                refine (Has_ok pa qa (i + j) _ AF.out.ka (by omega)).mono ?_
                rintro e q3 ⟨rfl, hb⟩
                clear d00 d01
                replace T := Lib.hid (Below.andThen T.out hb (Nat.le_refl _))
                replace C := Lib.hid (C.out.below hb)
                replace D := Lib.hid (D.out.below hb)
                replace EA := Lib.hid (EA.out.below hb)
                clear hb
                (try rw [VA.out])
                go_wp2_with fail
                go_roundw
                case rel => exact ⟨j + 1, by omega, by go_num, T, C, D, EA⟩
                case measure => simp [intOf]; omega
          · go_wp2_with fail
            go_roundw
            case rel => exact ⟨i + 1, by omega, by go_num, T, C, D, EA⟩
            case measure => simp [intOf]; omega
      · go_wp2_with fail
        refine (awake_any _).mono ?_
        rintro e vz ⟨rfl, hb⟩
        have T9 := Lib.hid (Below.andThen T.out hb (Nat.le_refl _))
        clear hb
        go_wp2_with fail
        exact bodyPost_ret (v := .bool true) (by simp [results, Try.results14, go_sem]) rfl ⟨rfl, T9.out⟩
end Go.Proofs.Ytbhlddfjfcmncaa
