import Derived.Test.YtbhlddfjfcmncaaZz
import Derived.Maps.OwnIn
import Derived.Maps.OwnSet
import Derived.RangeFuncNested
import Derived.RangeFuncBound
import Derived.RangeFuncCalls
import Derived.RangeFuncLeaves
import Derived.Shelf.Abstract
import Derived.Shelf.RegionOpen
import Derived.WalkKit
import Derived.OwnWalkIn
import Derived.TacticsInMore
import Derived.LoopNIn
import Derived.LoopIn
import Derived.WalkSpells
import Derived.WalkLawsBesides
import Derived.BigQuiet
import Derived.Deep.QuietTactic
import Derived.Lib.Hide
import Derived.Deep.RegionHeld3
import Derived.StillTailTactics
import Derived.Lib.MakeNoZero
import Derived.Laws.CopyOwn
import Derived.Deep.RegionLaw
import Derived.Deep.LoopGhost
import Derived.Deep.CutBlock
import Derived.Deep.DeepCutAuto
import Derived.Lib.IndexAny
namespace Go.Proofs.Ytbhlddfjfcmncaa
open Go.RowKit Go.Shelf
attribute [local go_sem] Oper.semAt_some
set_option maxRecDepth 100000 in
set_option maxHeartbeats 20000000 in
theorem TideBoole_any (f r g s : ByteArray) (a0 : Int) (w : World) (x1 : f.size ≤ 9223372036854775807) (x2 : r.size ≤ 9223372036854775807) (x3 : g.size ≤ 9223372036854775807) (x4 : s.size ≤ 9223372036854775807) :
    Calls Try.prog 13 #[.agg #[.string f, .string r], .agg #[.string g, .string s], .int .i64 a0] w fun e w' => e = .returned (.bool true) ∧ Below w.heap.size w w' := by
  have HT : Hid (∀ (f r : ByteArray) W, f.size ≤ 9223372036854775807 → r.size ≤ 9223372036854775807 → Calls Try.prog 37 #[.agg #[.string f, .string r], .int .i64 7] W fun e w' => e = .returned (.agg #[.string (bitsV f 7), .string (tameR r 7)]) ∧ Below W.heap.size W w') := Lib.hid (fun f r W hf hr => tame_any f r 7 W hf hr (by omega))
  obtain ⟨ht, m1, m2⟩ := tame_facts f r 7 (by omega) (by omega)
  obtain ⟨hu, m3, m4⟩ := tame_facts g s 7 (by omega) (by omega)
  have TT := Lib.hid ht
  have TU := Lib.hid hu
  clear ht hu
  go_enter Try.func13, Try.ntmps13
  go_wp2_with fail
  obtain ⟨W0, hW0⟩ : ∃ W0, W0 = (w.alloc (.cells #[.string f, .string r] 23)).alloc (.cells #[.string g, .string s] 23) := ⟨_, rfl⟩
  rw [← hW0]
  have B0 : Hid (Below w.heap.size w W0) := Lib.hid (by rw [hW0]; exact ((Below.refl _ _).alloc (Nat.le_refl _) _).alloc (by simp) _)
  have s0 : Hid (W0.heap.size = w.heap.size + 2) := Lib.hid (by rw [hW0, size_al, size_al])
  have P : Hid (∀ W, Below W0.heap.size W0 W → W.cell? ⟨w.heap.size, 0, none⟩ = some (.string f) ∧ W.cell? ⟨w.heap.size, 1, none⟩ = some (.string r) ∧ W.cell? ⟨w.heap.size + 1, 0, none⟩ = some (.string g) ∧ W.cell? ⟨w.heap.size + 1, 1, none⟩ = some (.string s)) := Lib.hid (fun W h => by
    have := s0.out
    refine ⟨below_at h (by omega) ?_, below_at h (by omega) ?_, below_at h (by omega) ?_, below_at h (by omega) ?_⟩ <;> (rw [hW0]; simp [cell_al] <;> (intro h; omega)))
  clear hW0
  refine wp_region_slots (by kernel_rfl) (by kernel_rfl) [37, 38, 39, 40, 41, 42, 7, 8] (twoG W0 (.agg #[.string f, .string r]) (.agg #[.string g, .string s]) (bitsV f 7) (tameR r 7) (bitsV g 7) (tameR s 7)) ⟨[undef, undef, undef, undef, undef, undef, undef, undef], rfl, false, false, false, false, false, false, false, false, false, false, _, _, _, _, _, _, _, _, rfl, rfl, ⟨(Below.refl _ _).drew, nofun, nofun, nofun, nofun, nofun, nofun, nofun, nofun, nofun⟩, nofun, nofun⟩ ?_ ?_
  · rintro i o bs vs W K ho ⟨b0, t0, b1, b2, t1, b3, b4, b5, b6, b7, v0, u0, v1, v2, u1, v3, v4, v5, rfl, rfl, J, hu0, hu1⟩ _ hb hw hK
    have HK := Lib.hid hK
    have HJ := Lib.hid J
    have HT0 := Lib.hid hu0
    have HT1 := Lib.hid hu1
    have HW := Lib.hid hw
    clear hK J hw hu0 hu1
    match i with
    | 0 =>
      refine wpOp_of_list rfl ?_
      simp only [putAll, Act.put, List.setIfInBounds_toArray, List.set_cons_succ, List.set_cons_zero]
      obtain ⟨d0, d1, _, _⟩ := P.out W HJ.out.below
      clear HT hb ho
      go_wp2_with fail
      have fin := HK.out [.agg #[.string f, .string r], u0, v1, v2, u1, v3, v4, v5] _ ⟨true, t0, b1, b2, t1, b3, b4, b5, b6, b7, _, _, _, _, _, _, _, _, rfl, rfl, HJ.out.load0, HT0.out, HT1.out⟩
      simp only [putAll, Act.put, List.setIfInBounds_toArray, List.set_cons_succ, List.set_cons_zero] at fin
      exact fin
    | 3 =>
      refine wpOp_of_list rfl ?_
      simp only [putAll, Act.put, List.setIfInBounds_toArray, List.set_cons_succ, List.set_cons_zero]
      obtain ⟨_, _, d0, d1⟩ := P.out W HJ.out.below
      clear HT hb ho
      go_wp2_with fail
      have fin := HK.out [v0, u0, v1, .agg #[.string g, .string s], u1, v3, v4, v5] _ ⟨b0, t0, b1, true, t1, b3, b4, b5, b6, b7, _, _, _, _, _, _, _, _, rfl, rfl, HJ.out.load1, HT0.out, HT1.out⟩
      simp only [putAll, Act.put, List.setIfInBounds_toArray, List.set_cons_succ, List.set_cons_zero] at fin
      exact fin
    | 1 =>
      obtain rfl : _ = o := Option.some.inj ho
      have e1 : b0 = true := HW.out ⟨0, .data⟩ (by simp) rfl
      obtain rfl := HJ.out.l0 e1
      refine wpOp_of_list rfl ?_
      simp only [putAll, Act.put, List.setIfInBounds_toArray, List.set_cons_succ, List.set_cons_zero]
      clear hb ho
      go_wp2_with fail
      refine (HT.out _ _ _ x1 x2).mono ?_
      rintro e W' ⟨rfl, hb⟩
      have HB := Lib.hid hb
      clear hb
      go_wp2_with fail
      have fin := HK.out [.agg #[.string f, .string r], .agg #[.string (bitsV f 7), .string (tameR r 7)], v1, v2, u1, v3, v4, v5] _ ⟨b0, true, b1, b2, t1, b3, b4, b5, b6, b7, _, _, _, _, _, _, _, _, rfl, rfl, HJ.out.grow HB.out, (fun _ => rfl), HT1.out⟩
      simp only [putAll, Act.put, List.setIfInBounds_toArray, List.set_cons_succ, List.set_cons_zero] at fin
      exact fin
    | 4 =>
      obtain rfl : _ = o := Option.some.inj ho
      have e1 : b2 = true := HW.out ⟨3, .data⟩ (by simp) rfl
      obtain rfl := HJ.out.l1 e1
      refine wpOp_of_list rfl ?_
      simp only [putAll, Act.put, List.setIfInBounds_toArray, List.set_cons_succ, List.set_cons_zero]
      clear hb ho
      go_wp2_with fail
      refine (HT.out _ _ _ x3 x4).mono ?_
      rintro e W' ⟨rfl, hb⟩
      have HB := Lib.hid hb
      clear hb
      go_wp2_with fail
      have fin := HK.out [v0, u0, v1, .agg #[.string g, .string s], .agg #[.string (bitsV g 7), .string (tameR s 7)], v3, v4, v5] _ ⟨b0, t0, b1, b2, true, b3, b4, b5, b6, b7, _, _, _, _, _, _, _, _, rfl, rfl, HJ.out.grow HB.out, HT0.out, (fun _ => rfl)⟩
      simp only [putAll, Act.put, List.setIfInBounds_toArray, List.set_cons_succ, List.set_cons_zero] at fin
      exact fin
    | 2 =>
      obtain rfl : _ = o := Option.some.inj ho
      have e1 : t0 = true := HW.out ⟨1, .data⟩ (by simp) rfl
      obtain rfl := HT0.out e1
      refine wpOp_of_list rfl ?_
      simp only [putAll, Act.put, List.setIfInBounds_toArray, List.set_cons_succ, List.set_cons_zero]
      clear hb ho
      go_wp2_with fail
      refine (given_any _ _ _).mono ?_
      rintro e W' ⟨rfl, hb⟩
      have HB := Lib.hid hb
      clear hb
      go_wp2_with fail
      have fin := HK.out [v0, .agg #[.string (bitsV f 7), .string (tameR r 7)], .agg #[.string (bitsV f 7), .string (tameR r 7)], v2, u1, v3, v4, v5] _ ⟨b0, t0, true, b2, t1, b3, b4, b5, b6, b7, _, _, _, _, _, _, _, _, rfl, rfl, HJ.out.call0 HB.out, (fun _ => rfl), HT1.out⟩
      simp only [putAll, Act.put, List.setIfInBounds_toArray, List.set_cons_succ, List.set_cons_zero] at fin
      exact fin
    | 5 =>
      obtain rfl : _ = o := Option.some.inj ho
      have e1 : t1 = true := HW.out ⟨4, .data⟩ (by simp) rfl
      obtain rfl := HT1.out e1
      refine wpOp_of_list rfl ?_
      simp only [putAll, Act.put, List.setIfInBounds_toArray, List.set_cons_succ, List.set_cons_zero]
      clear hb ho
      go_wp2_with fail
      refine (given_any _ _ _).mono ?_
      rintro e W' ⟨rfl, hb⟩
      have HB := Lib.hid hb
      clear hb
      go_wp2_with fail
      have fin := HK.out [v0, u0, v1, v2, .agg #[.string (bitsV g 7), .string (tameR s 7)], .agg #[.string (bitsV g 7), .string (tameR s 7)], v4, v5] _ ⟨b0, t0, b1, b2, t1, true, b4, b5, b6, b7, _, _, _, _, _, _, _, _, rfl, rfl, HJ.out.call1 HB.out, HT0.out, (fun _ => rfl)⟩
      simp only [putAll, Act.put, List.setIfInBounds_toArray, List.set_cons_succ, List.set_cons_zero] at fin
      exact fin
    | 6 =>
      have e4 : b4 = false := by simpa using hb
      subst e4
      refine wpOp_of_list rfl ?_
      simp only [putAll, Act.put, List.setIfInBounds_toArray, List.set_cons_succ, List.set_cons_zero]
      clear hb ho
      go_wp2_with fail
      have fin := HK.out [v0, u0, v1, v2, u1, v3, .pointer (some ⟨W.heap.size, 0, none⟩), v5] _ ⟨b0, t0, b1, b2, t1, b3, true, b5, b6, b7, _, _, _, _, _, _, _, _, rfl, rfl, HJ.out.alloc0 23, HT0.out, HT1.out⟩
      simp only [putAll, Act.put, List.setIfInBounds_toArray, List.set_cons_succ, List.set_cons_zero] at fin
      exact fin
    | 7 =>
      have e4 : b5 = false := by simpa using hb
      subst e4
      refine wpOp_of_list rfl ?_
      simp only [putAll, Act.put, List.setIfInBounds_toArray, List.set_cons_succ, List.set_cons_zero]
      clear hb ho
      go_wp2_with fail
      have fin := HK.out [v0, u0, v1, v2, u1, v3, v4, .pointer (some ⟨W.heap.size, 0, none⟩)] _ ⟨b0, t0, b1, b2, t1, b3, b4, true, b6, b7, _, _, _, _, _, _, _, _, rfl, rfl, HJ.out.alloc1 23, HT0.out, HT1.out⟩
      simp only [putAll, Act.put, List.setIfInBounds_toArray, List.set_cons_succ, List.set_cons_zero] at fin
      exact fin
    | 8 =>
      obtain rfl : _ = o := Option.some.inj ho
      have e1 : b1 = true := HW.out ⟨2, .data⟩ (by simp) rfl
      have e4 : b4 = true := HW.out ⟨6, .data⟩ (by simp) rfl
      subst e4
      obtain rfl := HJ.out.c0 e1
      obtain ⟨p, rfl, hp⟩ := HJ.out.a0 rfl
      obtain ⟨_, p1, p2, p3, p4, p5⟩ := hp
      refine wpOp_of_list rfl ?_
      simp only [putAll, Act.put, List.setIfInBounds_toArray, List.set_cons_succ, List.set_cons_zero]
      clear hb ho
      go_wp2_with fail
      have fin := HK.out [v0, u0, .agg #[.string (bitsV f 7), .string (tameR r 7)], v2, u1, v3, .pointer (some ⟨p, 0, none⟩), v5] _ ⟨b0, t0, b1, b2, t1, b3, true, b5, true, b7, _, _, _, _, _, _, _, _, rfl, rfl, HJ.out.store0, HT0.out, HT1.out⟩
      simp only [putAll, Act.put, List.setIfInBounds_toArray, List.set_cons_succ, List.set_cons_zero] at fin
      exact fin
    | 9 =>
      obtain rfl : _ = o := Option.some.inj ho
      have e1 : b3 = true := HW.out ⟨5, .data⟩ (by simp) rfl
      have e4 : b5 = true := HW.out ⟨7, .data⟩ (by simp) rfl
      subst e4
      obtain rfl := HJ.out.c1 e1
      obtain ⟨p, rfl, hp⟩ := HJ.out.a1 rfl
      obtain ⟨_, p1, p2, p3, p4, p5⟩ := hp
      refine wpOp_of_list rfl ?_
      simp only [putAll, Act.put, List.setIfInBounds_toArray, List.set_cons_succ, List.set_cons_zero]
      clear hb ho
      go_wp2_with fail
      have fin := HK.out [v0, u0, v1, v2, u1, .agg #[.string (bitsV g 7), .string (tameR s 7)], v4, .pointer (some ⟨p, 0, none⟩)] _ ⟨b0, t0, b1, b2, t1, b3, b4, true, b6, true, _, _, _, _, _, _, _, _, rfl, rfl, HJ.out.store1, HT0.out, HT1.out⟩
      simp only [putAll, Act.put, List.setIfInBounds_toArray, List.set_cons_succ, List.set_cons_zero] at fin
      exact fin
    | i + 10 => simp at hb
  · rintro vs W ⟨b0, t0, b1, b2, t1, b3, b4, b5, b6, b7, v0, u0, v1, v2, u1, v3, v4, v5, hbs, rfl, J, hu0, hu1⟩
    simp only [List.length_cons, List.length_nil, List.replicate_succ, List.replicate_zero, List.cons.injEq, and_true] at hbs
    obtain ⟨rfl, rfl, rfl, rfl, rfl, rfl, rfl, rfl, rfl, rfl⟩ := hbs
    obtain rfl := J.l0 rfl
    obtain rfl := J.c0 rfl
    obtain rfl := J.l1 rfl
    obtain rfl := J.c1 rfl
    obtain rfl := hu0 rfl
    obtain rfl := hu1 rfl
    obtain ⟨p, rfl, hp⟩ := J.a0 rfl
    obtain ⟨q, rfl, hq⟩ := J.a1 rfl
    simp only [if_true] at hp hq
    have T := Lib.hid (B0.out.trans (J.below.mono (by have := s0.out; omega)))
    have C := Lib.hid (show Two W p (bitsV f 7) (tameR r 7) from ⟨hp.2.1, hp.2.2.1, hp.2.2.2.1⟩)
    have D := Lib.hid (show Two W q (bitsV g 7) (tameR s 7) from ⟨hq.2.1, hq.2.2.1, hq.2.2.2.1⟩)
    clear J hp hq HT P B0 s0 hu0 hu1
    generalize bitsV f 7 = F at *
    generalize tameR r 7 = R at *
    generalize bitsV g 7 = G at *
    generalize tameR s 7 = S at *
    simp only [putAll, Act.put, List.setIfInBounds_toArray, List.set_cons_succ, List.set_cons_zero]
    obtain ⟨pb, qb, po, qo, pn, qn, pm, qm, pd, qd, pf, qf, BF⟩ := boole_facts TT.out TU.out m1 m2 m3 m4
    have BF := Lib.hid BF
    obtain ⟨a1, ha1, ha2⟩ := hourV_nat a0
    have HA := Lib.hid ha2
    have wa : (a1 : Int) % 1000 = ((a1 % 1000 : Nat) : Int) := by omega
    have la : a1 % 1000 < 1000 := Nat.mod_lt _ (by omega)
    have HM := Lib.hid wa
    clear ha2 wa
    generalize a1 % 1000 = a at *
    obtain ⟨vx, hvx⟩ : ∃ vx, hasB F R a = vx := ⟨_, rfl⟩
    obtain ⟨vy, hvy⟩ : ∃ vy, hasB G S a = vy := ⟨_, rfl⟩
    have VX := Lib.hid hvx
    have VY := Lib.hid hvy
    have VB : Hid (hasB pb qb a = (vx && vy)) := Lib.hid (by rw [BF.out.hb, hvx, hvy])
    have VO : Hid (hasB po qo a = (vx || vy)) := Lib.hid (by rw [BF.out.ho, hvx, hvy])
    have VN : Hid (hasB pn qn a = !vx) := Lib.hid (by rw [BF.out.hn, hvx])
    clear hvx hvy
    go_wp2_with fail
    refine (hour_any _ _).mono ?_
    rintro e w9 ⟨rfl, rfl⟩
    rw [HA.out]
    have d00 := C.out.2.1
    have d01 := C.out.2.2
    have d10 := D.out.2.1
    have d11 := D.out.2.2
    go_wp2_with fail
    rw [HM.out]
    clear d00 d01 d10 d11
    have d00 := C.out.2.1
    have d01 := C.out.2.2
    have d10 := D.out.2.1
    have d11 := D.out.2.2
    go_wp2_with fail
    refine (BF.out.c1 _).mono ?_
    rintro e u1 ⟨rfl, hb⟩
    clear d00 d01
    clear d10 d11
    replace T := Lib.hid (Below.al (Below.andThen T.out hb (Nat.le_refl _)) (Nat.le_refl _) (Obj.cells #[.string pb, .string qb] 23))
    replace C := Lib.hid ((C.out.below hb).alloc (Obj.cells #[.string pb, .string qb] 23))
    replace D := Lib.hid ((D.out.below hb).alloc (Obj.cells #[.string pb, .string qb] 23))
    have EB := Lib.hid (Two.new u1 pb qb 23)
    clear hb
    have d00 := C.out.2.1
    have d01 := C.out.2.2
    have d10 := D.out.2.1
    have d11 := D.out.2.2
    go_wp2_with fail
    refine (BF.out.c2 _).mono ?_
    rintro e u2 ⟨rfl, hb⟩
    clear d00 d01
    clear d10 d11
    replace T := Lib.hid (Below.al (Below.andThen T.out hb (Nat.le_refl _)) (Nat.le_refl _) (Obj.cells #[.string po, .string qo] 23))
    replace C := Lib.hid ((C.out.below hb).alloc (Obj.cells #[.string po, .string qo] 23))
    replace D := Lib.hid ((D.out.below hb).alloc (Obj.cells #[.string po, .string qo] 23))
    replace EB := Lib.hid ((EB.out.below hb).alloc (Obj.cells #[.string po, .string qo] 23))
    have EO := Lib.hid (Two.new u2 po qo 23)
    clear hb
    have d00 := D.out.2.1
    have d01 := D.out.2.2
    have d10 := C.out.2.1
    have d11 := C.out.2.2
    go_wp2_with fail
    refine (BF.out.c3 _).mono ?_
    rintro e u3 ⟨rfl, hb⟩
    clear d00 d01
    clear d10 d11
    replace T := Lib.hid (Below.al (Below.andThen T.out hb (Nat.le_refl _)) (Nat.le_refl _) (Obj.cells #[.string pb, .string qb] 23))
    replace C := Lib.hid ((C.out.below hb).alloc (Obj.cells #[.string pb, .string qb] 23))
    replace D := Lib.hid ((D.out.below hb).alloc (Obj.cells #[.string pb, .string qb] 23))
    replace EB := Lib.hid ((EB.out.below hb).alloc (Obj.cells #[.string pb, .string qb] 23))
    replace EO := Lib.hid ((EO.out.below hb).alloc (Obj.cells #[.string pb, .string qb] 23))
    have EC := Lib.hid (Two.new u3 pb qb 23)
    clear hb
    have d00 := C.out.2.1
    have d01 := C.out.2.2
    go_wp2_with fail
    refine (BF.out.c4 _).mono ?_
    rintro e u4 ⟨rfl, hb⟩
    clear d00 d01
    replace T := Lib.hid (Below.al (Below.andThen T.out hb (Nat.le_refl _)) (Nat.le_refl _) (Obj.cells #[.string pn, .string qn] 23))
    replace C := Lib.hid ((C.out.below hb).alloc (Obj.cells #[.string pn, .string qn] 23))
    replace D := Lib.hid ((D.out.below hb).alloc (Obj.cells #[.string pn, .string qn] 23))
    replace EB := Lib.hid ((EB.out.below hb).alloc (Obj.cells #[.string pn, .string qn] 23))
    replace EO := Lib.hid ((EO.out.below hb).alloc (Obj.cells #[.string pn, .string qn] 23))
    replace EC := Lib.hid ((EC.out.below hb).alloc (Obj.cells #[.string pn, .string qn] 23))
    have EN := Lib.hid (Two.new u4 pn qn 23)
    clear hb
    have d00 := D.out.2.1
    have d01 := D.out.2.2
    go_wp2_with fail
    refine (BF.out.c5 _).mono ?_
    rintro e u5 ⟨rfl, hb⟩
    clear d00 d01
    replace T := Lib.hid (Below.al (Below.andThen T.out hb (Nat.le_refl _)) (Nat.le_refl _) (Obj.cells #[.string pm, .string qm] 23))
    replace C := Lib.hid ((C.out.below hb).alloc (Obj.cells #[.string pm, .string qm] 23))
    replace D := Lib.hid ((D.out.below hb).alloc (Obj.cells #[.string pm, .string qm] 23))
    replace EB := Lib.hid ((EB.out.below hb).alloc (Obj.cells #[.string pm, .string qm] 23))
    replace EO := Lib.hid ((EO.out.below hb).alloc (Obj.cells #[.string pm, .string qm] 23))
    replace EC := Lib.hid ((EC.out.below hb).alloc (Obj.cells #[.string pm, .string qm] 23))
    replace EN := Lib.hid ((EN.out.below hb).alloc (Obj.cells #[.string pm, .string qm] 23))
    have EM := Lib.hid (Two.new u5 pm qm 23)
    clear hb
    have d00 := EN.out.2.1
    have d01 := EN.out.2.2
    have d10 := EM.out.2.1
    have d11 := EM.out.2.2
    go_wp2_with fail
    refine (BF.out.c6 _).mono ?_
    rintro e u6 ⟨rfl, hb⟩
    clear d00 d01
    clear d10 d11
    replace T := Lib.hid (Below.al (Below.andThen T.out hb (Nat.le_refl _)) (Nat.le_refl _) (Obj.cells #[.string pd, .string qd] 23))
    replace C := Lib.hid ((C.out.below hb).alloc (Obj.cells #[.string pd, .string qd] 23))
    replace D := Lib.hid ((D.out.below hb).alloc (Obj.cells #[.string pd, .string qd] 23))
    replace EB := Lib.hid ((EB.out.below hb).alloc (Obj.cells #[.string pd, .string qd] 23))
    replace EO := Lib.hid ((EO.out.below hb).alloc (Obj.cells #[.string pd, .string qd] 23))
    replace EC := Lib.hid ((EC.out.below hb).alloc (Obj.cells #[.string pd, .string qd] 23))
    replace EN := Lib.hid ((EN.out.below hb).alloc (Obj.cells #[.string pd, .string qd] 23))
    replace EM := Lib.hid ((EM.out.below hb).alloc (Obj.cells #[.string pd, .string qd] 23))
    have ED := Lib.hid (Two.new u6 pd qd 23)
    clear hb
    have d00 := EB.out.2.1
    have d01 := EB.out.2.2
    go_wp2_with fail
    refine (BF.out.c7 _).mono ?_
    rintro e u7 ⟨rfl, hb⟩
    clear d00 d01
    replace T := Lib.hid (Below.al (Below.andThen T.out hb (Nat.le_refl _)) (Nat.le_refl _) (Obj.cells #[.string pd, .string qd] 23))
    replace C := Lib.hid ((C.out.below hb).alloc (Obj.cells #[.string pd, .string qd] 23))
    replace D := Lib.hid ((D.out.below hb).alloc (Obj.cells #[.string pd, .string qd] 23))
    replace EB := Lib.hid ((EB.out.below hb).alloc (Obj.cells #[.string pd, .string qd] 23))
    replace EO := Lib.hid ((EO.out.below hb).alloc (Obj.cells #[.string pd, .string qd] 23))
    replace EC := Lib.hid ((EC.out.below hb).alloc (Obj.cells #[.string pd, .string qd] 23))
    replace EN := Lib.hid ((EN.out.below hb).alloc (Obj.cells #[.string pd, .string qd] 23))
    replace EM := Lib.hid ((EM.out.below hb).alloc (Obj.cells #[.string pd, .string qd] 23))
    replace ED := Lib.hid ((ED.out.below hb).alloc (Obj.cells #[.string pd, .string qd] 23))
    have EK := Lib.hid (Two.new u7 pd qd 23)
    clear hb
    have d00 := C.out.2.1
    have d01 := C.out.2.2
    go_wp2_with fail
    refine (Has_ok F R a _ TT.out (by omega)).mono ?_
    rintro e u8 ⟨rfl, hb⟩
    clear d00 d01
    replace T := Lib.hid (Below.andThen T.out hb (Nat.le_refl _))
    replace C := Lib.hid (C.out.below hb)
    replace D := Lib.hid (D.out.below hb)
    replace EB := Lib.hid (EB.out.below hb)
    replace EO := Lib.hid (EO.out.below hb)
    replace EC := Lib.hid (EC.out.below hb)
    replace EN := Lib.hid (EN.out.below hb)
    replace EM := Lib.hid (EM.out.below hb)
    replace ED := Lib.hid (ED.out.below hb)
    replace EK := Lib.hid (EK.out.below hb)
    clear hb
    rw [VX.out]
    have d00 := D.out.2.1
    have d01 := D.out.2.2
    go_wp2_with fail
    refine (Has_ok G S a _ TU.out (by omega)).mono ?_
    rintro e u9 ⟨rfl, hb⟩
    clear d00 d01
    replace T := Lib.hid (Below.andThen T.out hb (Nat.le_refl _))
    replace C := Lib.hid (C.out.below hb)
    replace D := Lib.hid (D.out.below hb)
    replace EB := Lib.hid (EB.out.below hb)
    replace EO := Lib.hid (EO.out.below hb)
    replace EC := Lib.hid (EC.out.below hb)
    replace EN := Lib.hid (EN.out.below hb)
    replace EM := Lib.hid (EM.out.below hb)
    replace ED := Lib.hid (ED.out.below hb)
    replace EK := Lib.hid (EK.out.below hb)
    clear hb
    rw [VY.out]
    have d00 := EB.out.2.1
    have d01 := EB.out.2.2
    go_wp2_with fail
    refine (Has_ok pb qb a _ BF.out.kb (by omega)).mono ?_
    rintro e u10 ⟨rfl, hb⟩
    clear d00 d01
    replace T := Lib.hid (Below.andThen T.out hb (Nat.le_refl _))
    replace C := Lib.hid (C.out.below hb)
    replace D := Lib.hid (D.out.below hb)
    replace EB := Lib.hid (EB.out.below hb)
    replace EO := Lib.hid (EO.out.below hb)
    replace EC := Lib.hid (EC.out.below hb)
    replace EN := Lib.hid (EN.out.below hb)
    replace EM := Lib.hid (EM.out.below hb)
    replace ED := Lib.hid (ED.out.below hb)
    replace EK := Lib.hid (EK.out.below hb)
    clear hb
    rw [VB.out]
    have d00 := EO.out.2.1
    have d01 := EO.out.2.2
    go_wp2_with fail
    refine (Has_ok po qo a _ BF.out.ko (by omega)).mono ?_
    rintro e u11 ⟨rfl, hb⟩
    clear d00 d01
    replace T := Lib.hid (Below.andThen T.out hb (Nat.le_refl _))
    replace C := Lib.hid (C.out.below hb)
    replace D := Lib.hid (D.out.below hb)
    replace EB := Lib.hid (EB.out.below hb)
    replace EO := Lib.hid (EO.out.below hb)
    replace EC := Lib.hid (EC.out.below hb)
    replace EN := Lib.hid (EN.out.below hb)
    replace EM := Lib.hid (EM.out.below hb)
    replace ED := Lib.hid (ED.out.below hb)
    replace EK := Lib.hid (EK.out.below hb)
    clear hb
    rw [VO.out]
    have d00 := EN.out.2.1
    have d01 := EN.out.2.2
    go_wp2_with fail
    refine (Has_ok pn qn a _ BF.out.kn (by omega)).mono ?_
    rintro e u12 ⟨rfl, hb⟩
    clear d00 d01
    replace T := Lib.hid (Below.andThen T.out hb (Nat.le_refl _))
    replace C := Lib.hid (C.out.below hb)
    replace D := Lib.hid (D.out.below hb)
    replace EB := Lib.hid (EB.out.below hb)
    replace EO := Lib.hid (EO.out.below hb)
    replace EC := Lib.hid (EC.out.below hb)
    replace EN := Lib.hid (EN.out.below hb)
    replace EM := Lib.hid (EM.out.below hb)
    replace ED := Lib.hid (ED.out.below hb)
    replace EK := Lib.hid (EK.out.below hb)
    clear hb
    rw [VN.out]
    have d00 := EN.out.2.1
    have d01 := EN.out.2.2
    go_wp2_with fail
    refine (BF.out.c8 _).mono ?_
    rintro e u13 ⟨rfl, hb⟩
    clear d00 d01
    replace T := Lib.hid (Below.al (Below.andThen T.out hb (Nat.le_refl _)) (Nat.le_refl _) (Obj.cells #[.string pf, .string qf] 23))
    replace C := Lib.hid ((C.out.below hb).alloc (Obj.cells #[.string pf, .string qf] 23))
    replace D := Lib.hid ((D.out.below hb).alloc (Obj.cells #[.string pf, .string qf] 23))
    replace EB := Lib.hid ((EB.out.below hb).alloc (Obj.cells #[.string pf, .string qf] 23))
    replace EO := Lib.hid ((EO.out.below hb).alloc (Obj.cells #[.string pf, .string qf] 23))
    replace EC := Lib.hid ((EC.out.below hb).alloc (Obj.cells #[.string pf, .string qf] 23))
    replace EN := Lib.hid ((EN.out.below hb).alloc (Obj.cells #[.string pf, .string qf] 23))
    replace EM := Lib.hid ((EM.out.below hb).alloc (Obj.cells #[.string pf, .string qf] 23))
    replace ED := Lib.hid ((ED.out.below hb).alloc (Obj.cells #[.string pf, .string qf] 23))
    replace EK := Lib.hid ((EK.out.below hb).alloc (Obj.cells #[.string pf, .string qf] 23))
    have EF := Lib.hid (Two.new u13 pf qf 23)
    clear hb
    have d00 := C.out.2.1
    have d01 := C.out.2.2
    go_wp2_with fail
    refine (BF.out.c9 _).mono ?_
    rintro e u14 ⟨rfl, hb⟩
    clear d00 d01
    replace T := Lib.hid (Below.al (Below.andThen T.out hb (Nat.le_refl _)) (Nat.le_refl _) (Obj.cells #[.string pf, .string qf] 23))
    replace C := Lib.hid ((C.out.below hb).alloc (Obj.cells #[.string pf, .string qf] 23))
    replace D := Lib.hid ((D.out.below hb).alloc (Obj.cells #[.string pf, .string qf] 23))
    replace EB := Lib.hid ((EB.out.below hb).alloc (Obj.cells #[.string pf, .string qf] 23))
    replace EO := Lib.hid ((EO.out.below hb).alloc (Obj.cells #[.string pf, .string qf] 23))
    replace EC := Lib.hid ((EC.out.below hb).alloc (Obj.cells #[.string pf, .string qf] 23))
    replace EN := Lib.hid ((EN.out.below hb).alloc (Obj.cells #[.string pf, .string qf] 23))
    replace EM := Lib.hid ((EM.out.below hb).alloc (Obj.cells #[.string pf, .string qf] 23))
    replace ED := Lib.hid ((ED.out.below hb).alloc (Obj.cells #[.string pf, .string qf] 23))
    replace EK := Lib.hid ((EK.out.below hb).alloc (Obj.cells #[.string pf, .string qf] 23))
    replace EF := Lib.hid ((EF.out.below hb).alloc (Obj.cells #[.string pf, .string qf] 23))
    have EG := Lib.hid (Two.new u14 pf qf 23)
    clear hb
    have H0 := And.intro EB.out (And.intro EC.out (And.intro ED.out (And.intro EK.out (And.intro EF.out EG.out))))
    clear VX VY VB VO VN BF C D EB EO EC EN EM ED EK EF EG
    obtain ⟨⟨_, d0, d1⟩, ⟨_, d2, d3⟩, ⟨_, d4, d5⟩, ⟨_, d6, d7⟩, ⟨_, d8, d9⟩, ⟨_, d10, d11⟩⟩ := H0
    cases vx
    all_goals
      go_wp2_with fail
      refine (awake_any _).mono ?_
      rintro e vz ⟨rfl, hb⟩
      have T9 := Lib.hid (Below.andThen T.out hb (Nat.le_refl _))
      clear hb
      go_wp2_with fail
      exact bodyPost_ret (v := .bool true) (by simp [results, Try.results13, go_sem]) rfl ⟨rfl, T9.out⟩
end Go.Proofs.Ytbhlddfjfcmncaa
