import Derived.Test.YtbhlddfjfcmncaaZu
import Derived.Test.YtbhlddfjfcmncaaZw
import Derived.Maps.OwnIn
import Derived.Maps.OwnSet
import Derived.RangeFuncNested
import Derived.RangeFuncBound
import Derived.RangeFuncCalls
import Derived.RangeFuncLeaves
import Derived.Shelf.Abstract
import Derived.Shelf.RegionOpen
import Derived.WalkKit
import Derived.OwnWalkIn
import Derived.TacticsInMore
import Derived.LoopNIn
import Derived.LoopIn
import Derived.WalkSpells
import Derived.WalkLawsBesides
import Derived.BigQuiet
import Derived.Deep.QuietTactic
import Derived.Lib.Hide
import Derived.Deep.RegionHeld3
import Derived.StillTailTactics
import Derived.Lib.MakeNoZero
import Derived.Laws.CopyOwn
import Derived.Deep.RegionLaw
import Derived.Deep.LoopGhost
import Derived.Deep.CutBlock
import Derived.Deep.DeepCutAuto
import Derived.Lib.IndexAny
namespace Go.Proofs.Ytbhlddfjfcmncaa
open Go.RowKit Go.Shelf
attribute [local go_sem] Oper.semAt_some
theorem sum_cases (f r g s : ByteArray) (ht : tideB (f, r) = true) (hu : tideB (g, s) = true) (hf : f.size ≤ 24) (hg : g.size ≤ 24) : ∃ (p q : ByteArray) (e : Int) (o : Bool), Fits p q e o ∧
    (∀ W, Calls Try.prog 29 #[.agg #[.string f, .string r], .agg #[.string g, .string s]] W fun e' w' => e' = .returned (.tuple #[.agg #[.string p, .string q], .int .i64 e]) ∧ Below W.heap.size W w') ∧
    (∀ W, Calls Try.prog 46 #[.agg #[.string f, .string r], .agg #[.string g, .string s], .int .i64 2] W fun e' w' => e' = .returned (.tuple #[.agg #[.string p, .string q], .bool o]) ∧ Below W.heap.size W w') := by
  obtain ⟨K, D, hF, h1, h2⟩ := sums_made ht hu hf hg
  obtain ⟨p, q, e, o, hf, e1, e2⟩ := fits_rows h1 h2
  refine ⟨p, q, e, o, hf, fun W => ?_, fun W => refSum_any f r g s W ht hu p q o e2⟩
  have := Sum_ok f r g s W ht hu
  rw [e1] at this; exact this
set_option maxRecDepth 100000 in
set_option maxHeartbeats 4000000 in
theorem TideSums_any (f r g s : ByteArray) (w : World) (x1 : f.size ≤ 9223372036854775807) (x2 : r.size ≤ 9223372036854775807) (x3 : g.size ≤ 9223372036854775807) (x4 : s.size ≤ 9223372036854775807) :
    Calls Try.prog 8 #[.agg #[.string f, .string r], .agg #[.string g, .string s]] w fun e w' => e = .returned (.bool true) ∧ Below w.heap.size w w' := by
  have HT : Hid (∀ (f r : ByteArray) W, f.size ≤ 9223372036854775807 → r.size ≤ 9223372036854775807 → Calls Try.prog 37 #[.agg #[.string f, .string r], .int .i64 24] W fun e w' => e = .returned (.agg #[.string (bitsV f 24), .string (tameR r 24)]) ∧ Below W.heap.size W w') := Lib.hid (fun f r W hf hr => tame_any f r 24 W hf hr (by omega))
  obtain ⟨ht, m1, m2⟩ := tame_facts f r 24 (by omega) (by omega)
  obtain ⟨hu, m3, m4⟩ := tame_facts g s 24 (by omega) (by omega)
  have TT := Lib.hid ht
  have TU := Lib.hid hu
  clear ht hu
  go_enter Try.func8, Try.ntmps8
  go_wp2_with fail
  obtain ⟨W0, hW0⟩ : ∃ W0, W0 = (w.alloc (.cells #[.string f, .string r] 23)).alloc (.cells #[.string g, .string s] 23) := ⟨_, rfl⟩
  rw [← hW0]
  have B0 : Hid (Below w.heap.size w W0) := Lib.hid (by rw [hW0]; exact ((Below.refl _ _).alloc (Nat.le_refl _) _).alloc (by simp) _)
  have s0 : Hid (W0.heap.size = w.heap.size + 2) := Lib.hid (by rw [hW0, size_al, size_al])
  have P : Hid (∀ W, Below W0.heap.size W0 W → W.cell? ⟨w.heap.size, 0, none⟩ = some (.string f) ∧ W.cell? ⟨w.heap.size, 1, none⟩ = some (.string r) ∧ W.cell? ⟨w.heap.size + 1, 0, none⟩ = some (.string g) ∧ W.cell? ⟨w.heap.size + 1, 1, none⟩ = some (.string s)) := Lib.hid (fun W h => by
    have := s0.out
    refine ⟨below_at h (by omega) ?_, below_at h (by omega) ?_, below_at h (by omega) ?_, below_at h (by omega) ?_⟩ <;> (rw [hW0]; simp [cell_al] <;> (intro h; omega)))
  clear hW0
  refine wp_region_slots (by kernel_rfl) (by kernel_rfl) [11, 12, 13, 14, 5, 6] (twoJ W0 (.agg #[.string f, .string r]) (.agg #[.string g, .string s]) (bitsV f 24) (tameR r 24) (bitsV g 24) (tameR s 24)) ⟨[undef, undef, undef, undef, undef, undef], rfl, false, false, false, false, false, false, false, false, _, _, _, _, _, _, rfl, rfl, ⟨(Below.refl _ _).drew, nofun, nofun, nofun, nofun, nofun, nofun, nofun, nofun, nofun⟩⟩ ?_ ?_
  · rintro i o bs vs W K ho ⟨b0, b1, b2, b3, b4, b5, b6, b7, v0, v1, v2, v3, v4, v5, rfl, rfl, J⟩ _ hb hw hK
    have HK := Lib.hid hK
    have HJ := Lib.hid J
    have HW := Lib.hid hw
    clear hK J hw
    match i with
    | 0 =>
      refine wpOp_of_list rfl ?_
      simp only [putAll, Act.put, List.setIfInBounds_toArray, List.set_cons_succ, List.set_cons_zero]
      obtain ⟨d0, d1, _, _⟩ := P.out W HJ.out.below
      clear HT hb ho
      go_wp2_with fail
      exact HK.out [.agg #[.string f, .string r], v1, v2, v3, v4, v5] _ ⟨true, b1, b2, b3, b4, b5, b6, b7, _, _, _, _, _, _, rfl, rfl, HJ.out.load0⟩
    | 2 =>
      refine wpOp_of_list rfl ?_
      simp only [putAll, Act.put, List.setIfInBounds_toArray, List.set_cons_succ, List.set_cons_zero]
      obtain ⟨_, _, d0, d1⟩ := P.out W HJ.out.below
      clear HT hb ho
      go_wp2_with fail
      exact HK.out [v0, v1, .agg #[.string g, .string s], v3, v4, v5] _ ⟨b0, b1, true, b3, b4, b5, b6, b7, _, _, _, _, _, _, rfl, rfl, HJ.out.load1⟩
    | 1 =>
      obtain rfl : _ = o := Option.some.inj ho
      have e1 : b0 = true := HW.out ⟨0, .data⟩ (by simp) rfl
      obtain rfl := HJ.out.l0 e1
      refine wpOp_of_list rfl ?_
      simp only [putAll, Act.put, List.setIfInBounds_toArray, List.set_cons_succ, List.set_cons_zero]
      clear hb ho
      go_wp2_with fail
      refine (HT.out _ _ _ x1 x2).mono ?_
      rintro e W' ⟨rfl, hb⟩
      have HB := Lib.hid hb
      clear hb
      go_wp2_with fail
      exact HK.out [_, .agg #[.string (bitsV f 24), .string (tameR r 24)], v2, v3, v4, v5] _ ⟨b0, true, b2, b3, b4, b5, b6, b7, _, _, _, _, _, _, rfl, rfl, HJ.out.call0 HB.out⟩
    | 3 =>
      obtain rfl : _ = o := Option.some.inj ho
      have e1 : b2 = true := HW.out ⟨2, .data⟩ (by simp) rfl
      obtain rfl := HJ.out.l1 e1
      refine wpOp_of_list rfl ?_
      simp only [putAll, Act.put, List.setIfInBounds_toArray, List.set_cons_succ, List.set_cons_zero]
      clear hb ho
      go_wp2_with fail
      refine (HT.out _ _ _ x3 x4).mono ?_
      rintro e W' ⟨rfl, hb⟩
      have HB := Lib.hid hb
      clear hb
      go_wp2_with fail
      exact HK.out [v0, v1, _, .agg #[.string (bitsV g 24), .string (tameR s 24)], v4, v5] _ ⟨b0, b1, b2, true, b4, b5, b6, b7, _, _, _, _, _, _, rfl, rfl, HJ.out.call1 HB.out⟩
    | 4 =>
      have e4 : b4 = false := by simpa using hb
      subst e4
      refine wpOp_of_list rfl ?_
      simp only [putAll, Act.put, List.setIfInBounds_toArray, List.set_cons_succ, List.set_cons_zero]
      clear hb ho
      go_wp2_with fail
      exact HK.out [v0, v1, v2, v3, .pointer (some ⟨W.heap.size, 0, none⟩), v5] _ ⟨b0, b1, b2, b3, true, b5, b6, b7, _, _, _, _, _, _, rfl, rfl, HJ.out.alloc0 24⟩
    | 5 =>
      have e4 : b5 = false := by simpa using hb
      subst e4
      refine wpOp_of_list rfl ?_
      simp only [putAll, Act.put, List.setIfInBounds_toArray, List.set_cons_succ, List.set_cons_zero]
      clear hb ho
      go_wp2_with fail
      exact HK.out [v0, v1, v2, v3, v4, .pointer (some ⟨W.heap.size, 0, none⟩)] _ ⟨b0, b1, b2, b3, b4, true, b6, b7, _, _, _, _, _, _, rfl, rfl, HJ.out.alloc1 24⟩
    | 6 =>
      obtain rfl : _ = o := Option.some.inj ho
      have e1 : b1 = true := HW.out ⟨1, .data⟩ (by simp) rfl
      have e4 : b4 = true := HW.out ⟨4, .data⟩ (by simp) rfl
      subst e4
      obtain rfl := HJ.out.c0 e1
      obtain ⟨p, rfl, hp⟩ := HJ.out.a0 rfl
      obtain ⟨_, p1, p2, p3, p4, p5⟩ := hp
      refine wpOp_of_list rfl ?_
      simp only [putAll, Act.put, List.setIfInBounds_toArray, List.set_cons_succ, List.set_cons_zero]
      clear hb ho
      go_wp2_with fail
      exact HK.out [v0, _, v2, v3, .pointer (some ⟨p, 0, none⟩), v5] _ ⟨b0, b1, b2, b3, true, b5, true, b7, _, _, _, _, _, _, rfl, rfl, HJ.out.store0⟩
    | 7 =>
      obtain rfl : _ = o := Option.some.inj ho
      have e1 : b3 = true := HW.out ⟨3, .data⟩ (by simp) rfl
      have e4 : b5 = true := HW.out ⟨5, .data⟩ (by simp) rfl
      subst e4
      obtain rfl := HJ.out.c1 e1
      obtain ⟨p, rfl, hp⟩ := HJ.out.a1 rfl
      obtain ⟨_, p1, p2, p3, p4, p5⟩ := hp
      refine wpOp_of_list rfl ?_
      simp only [putAll, Act.put, List.setIfInBounds_toArray, List.set_cons_succ, List.set_cons_zero]
      clear hb ho
      go_wp2_with fail
      exact HK.out [v0, v1, v2, _, v4, .pointer (some ⟨p, 0, none⟩)] _ ⟨b0, b1, b2, b3, b4, true, b6, true, _, _, _, _, _, _, rfl, rfl, HJ.out.store1⟩
    | i + 8 => simp at hb
  · rintro vs W ⟨b0, b1, b2, b3, b4, b5, b6, b7, v0, v1, v2, v3, v4, v5, hbs, rfl, J⟩
    simp only [List.length_cons, List.length_nil, List.replicate_succ, List.replicate_zero, List.cons.injEq, and_true] at hbs
    obtain ⟨rfl, rfl, rfl, rfl, rfl, rfl, rfl, rfl⟩ := hbs
    obtain rfl := J.l0 rfl
    obtain rfl := J.c0 rfl
    obtain rfl := J.l1 rfl
    obtain rfl := J.c1 rfl
    obtain ⟨p, rfl, hp⟩ := J.a0 rfl
    obtain ⟨q, rfl, hq⟩ := J.a1 rfl
    simp only [if_true] at hp hq
    have T := Lib.hid (B0.out.trans (J.below.mono (by have := s0.out; omega)))
    have C := Lib.hid (show Two W p (bitsV f 24) (tameR r 24) from ⟨hp.2.1, hp.2.2.1, hp.2.2.2.1⟩)
    have D := Lib.hid (show Two W q (bitsV g 24) (tameR s 24) from ⟨hq.2.1, hq.2.2.1, hq.2.2.2.1⟩)
    clear J hp hq HT P B0 s0
    generalize bitsV f 24 = F at *
    generalize tameR r 24 = R at *
    generalize bitsV g 24 = G at *
    generalize tameR s 24 = S at *
    simp only [putAll, Act.put, List.setIfInBounds_toArray, List.set_cons_succ, List.set_cons_zero]
    have GV : Hid (∀ (f r : ByteArray) W, Calls Try.prog 18 #[.agg #[.string f, .string r]] W fun e w' => e = .returned (.agg #[.string f, .string r]) ∧ Below W.heap.size W w') := Lib.hid given_any
    obtain ⟨p1, q1, e1, o1, f1, c1, c2⟩ := sum_cases F R G S TT.out TU.out m1 m3
    have H1 := Lib.hid c1
    have H2 := Lib.hid c2
    have F1 := Lib.hid f1
    clear c1 c2 f1
    go_wp2_with fail
    obtain ⟨V, hV⟩ : ∃ V : World, V = W := ⟨_, rfl⟩
    subst hV
    go_cut [7, 8] (fun tp te wx => ∃ b, tp = .pointer (some ⟨b, 0, none⟩) ∧ te = .int .i64 e1 ∧ Hid (Below V.heap.size V wx) ∧ Hid (Own2 wx V.heap.size b p1 q1))
    case first =>
      have BB : Below V.heap.size V V.drew := (Below.refl _ _).drew
      have SS : Hid (∀ W, Below V.heap.size V W → W.cell? ⟨p, 0, none⟩ = some (.string F) ∧ W.cell? ⟨p, 1, none⟩ = some (.string R) ∧ W.cell? ⟨q, 0, none⟩ = some (.string G) ∧ W.cell? ⟨q, 1, none⟩ = some (.string S)) := Lib.hid (fun W h => ⟨below_at h C.out.1 C.out.2.1, below_at h C.out.1 C.out.2.2, below_at h D.out.1 D.out.2.1, below_at h D.out.1 D.out.2.2⟩)
      go_region_held3 (fun W => W.cell? ⟨p, 0, none⟩ = some (.string F) ∧ W.cell? ⟨p, 1, none⟩ = some (.string R) ∧ W.cell? ⟨q, 0, none⟩ = some (.string G) ∧ W.cell? ⟨q, 1, none⟩ = some (.string S))
        (first
          | exact SS.out _ BB
          | exact SS.out _ (BB.alloc BB.size _)
          | exact SS.out _ ((BB.setCell (by first | exact BB.size | exact OW.1) _).setCell (by first | exact BB.size | exact OW.1) _))
        (first
          | (go_at_call 18; refine (GV.out _ _ _).mono ?_; rintro e wa ⟨rfl, hb⟩; (first | (have OW := (Own2.newd V (Nat.le_refl _) sZ sZ 23).below hb) | (have OW := (Own2.new _ (Nat.le_trans (Nat.le_refl _) (Below.size BB)) sZ sZ 23).below hb) | (replace OW := OW.below hb) | skip); (try (obtain ⟨k0, k1, k2, k3⟩ := OW.cells)); replace BB := (by first | exact Below.andThen BB hb (Nat.le_refl _) | exact Below.andThen (BB.alloc BB.size _) hb (Nat.le_refl _)))
          | (go_at_call 29; refine (H1.out _).mono ?_; rintro e wa ⟨rfl, hb⟩; (first | (have OW := (Own2.newd V (Nat.le_refl _) sZ sZ 23).below hb) | (have OW := (Own2.new _ (Nat.le_trans (Nat.le_refl _) (Below.size BB)) sZ sZ 23).below hb) | (replace OW := OW.below hb) | skip); (try (obtain ⟨k0, k1, k2, k3⟩ := OW.cells)); replace BB := (by first | exact Below.andThen BB hb (Nat.le_refl _) | exact Below.andThen (BB.alloc BB.size _) hb (Nat.le_refl _))))
      all_goals
        go_wp2_with fail
        go_meet
        clear SS
        first
          | exact ⟨_, rfl, rfl, Lib.hid (BB.alloc BB.size _), Lib.hid (Own2.new wa BB.size p1 q1 23)⟩
          | exact ⟨_, rfl, rfl, Lib.hid ((BB.setCell OW.1 _).setCell OW.1 _), Lib.hid (OW.store p1 q1)⟩
    case rest =>
      obtain ⟨b_7, rfl, rfl, hB, hO⟩ := hcut
      replace T := Lib.hid (Below.andThen T.out hB.out (Nat.le_refl _))
      replace C := Lib.hid (C.out.below hB.out)
      replace D := Lib.hid (D.out.below hB.out)
      have A7 := Lib.hid (show Two wc b_7 p1 q1 from ⟨hO.out.2.1, hO.out.2.2.1, hO.out.2.2.2.1⟩)
      clear hB hO
      have d00 := C.out.2.1
      have d01 := C.out.2.2
      have d10 := D.out.2.1
      have d11 := D.out.2.2
      go_wp2_with fail
      refine (H2.out _).mono ?_
      rintro e u1 ⟨rfl, hb⟩
      clear d00 d01
      clear d10 d11
      replace T := Lib.hid (Below.al (Below.andThen T.out hb (Nat.le_refl _)) (Nat.le_refl _) (Obj.cells #[.string p1, .string q1] 24))
      replace A7 := Lib.hid ((A7.out.below hb).alloc (Obj.cells #[.string p1, .string q1] 24))
      have A9 := Lib.hid (Two.new u1 p1 q1 24)
      clear hb
      clear H1 H2
      rcases F1.out with ⟨rfl, rfl⟩ | ⟨rfl, rfl, rfl, rfl⟩
      · have d00 := A7.out.2.1
        have d01 := A7.out.2.2
        have d10 := A9.out.2.1
        have d11 := A9.out.2.2
        go_wp2_with fail
        refine (same_self p1 q1 _).mono ?_
        rintro e u3 ⟨rfl, hb⟩
        clear d00 d01
        clear d10 d11
        replace T := Lib.hid (Below.andThen T.out hb (Nat.le_refl _))
        clear hb
        go_wp2_with fail
        refine (awake_any _).mono ?_
        rintro e u5 ⟨rfl, hb⟩
        replace T := Lib.hid (Below.andThen T.out hb (Nat.le_refl _))
        clear hb
        go_wp2_with fail
        exact bodyPost_ret (v := .bool true) (by simp [results, Try.results8, go_sem]) rfl ⟨rfl, T.out⟩
      · have d00 := A7.out.2.1
        have d01 := A7.out.2.2
        go_wp2_with fail
        refine (same_self { data := #[] } { data := #[] } _).mono ?_
        rintro e u3 ⟨rfl, hb⟩
        clear d00 d01
        replace T := Lib.hid (Below.andThen T.out hb (Nat.le_refl _))
        clear hb
        go_wp2_with fail
        refine (awake_any _).mono ?_
        rintro e u5 ⟨rfl, hb⟩
        replace T := Lib.hid (Below.andThen T.out hb (Nat.le_refl _))
        clear hb
        go_wp2_with fail
        exact bodyPost_ret (v := .bool true) (by simp [results, Try.results8, go_sem]) rfl ⟨rfl, T.out⟩
end Go.Proofs.Ytbhlddfjfcmncaa
