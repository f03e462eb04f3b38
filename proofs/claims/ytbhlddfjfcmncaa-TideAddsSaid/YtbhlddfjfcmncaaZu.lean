import Derived.Test.YtbhlddfjfcmncaaZr
import Derived.Test.YtbhlddfjfcmncaaZt
import Derived.Test.YtbhlddfjfcmncaaZi
import Derived.Maps.OwnIn
import Derived.Maps.OwnSet
import Derived.RangeFuncNested
import Derived.RangeFuncBound
import Derived.RangeFuncCalls
import Derived.RangeFuncLeaves
import Derived.Shelf.Abstract
import Derived.Shelf.RegionOpen
import Derived.WalkKit
import Derived.OwnWalkIn
import Derived.TacticsInMore
import Derived.LoopNIn
import Derived.LoopIn
import Derived.WalkSpells
import Derived.WalkLawsBesides
import Derived.BigQuiet
import Derived.Deep.QuietTactic
import Derived.Lib.Hide
import Derived.Deep.RegionHeld3
import Derived.StillTailTactics
import Derived.Lib.MakeNoZero
import Derived.Laws.CopyOwn
import Derived.Deep.RegionLaw
import Derived.Deep.LoopGhost
import Derived.Deep.CutBlock
import Derived.Deep.DeepCutAuto
import Derived.Lib.IndexAny
namespace Go.Proofs.Ytbhlddfjfcmncaa
open Go.RowKit Go.Shelf
attribute [local go_sem] Oper.semAt_some
theorem Own2.cells {W : World} {B b : Nat} {x y : ByteArray} (h : Own2 W B b x y) : W.cell? ⟨b, 0, none⟩ = some (.string x) ∧ W.cell? ⟨b, 1, none⟩ = some (.string y) ∧ W.frozen? ⟨b, 0, none⟩ = false ∧ W.frozen? ⟨b, 1, none⟩ = false := h.2.2
theorem Own2.newd (W : World) {B : Nat} (h : B ≤ W.heap.size) (x y : ByteArray) (t : TypeId) : Own2 (W.alloc (.cells #[.string x, .string y] t)).drew B W.heap.size x y := Own2.new W h x y t
/-- an error or none, and the answer beside it -/
def Fits (p q : ByteArray) (e : Int) (o : Bool) : Prop := (e = 0 ∧ o = true) ∨ (e = 8 ∧ o = false ∧ p = { data := #[] } ∧ q = { data := #[] })
theorem fits_rows {Y : Nat → Bool} {K D : Nat} {u v : Value} (hu : u = rowV Y K D (.int .i64 0) (.int .i64 8)) (hv : v = rowV Y K D (.bool true) (.bool false)) :
    ∃ (p q : ByteArray) (e : Int) (o : Bool), Fits p q e o ∧ u = .tuple #[.agg #[.string p, .string q], .int .i64 e] ∧ v = .tuple #[.agg #[.string p, .string q], .bool o] := by
  rcases two_rows hu hv with ⟨a, b, e1, e2⟩ | ⟨e1, e2⟩
  · exact ⟨a, b, 0, true, .inl ⟨rfl, rfl⟩, e1, e2⟩
  · exact ⟨_, _, 8, false, .inr ⟨rfl, rfl, rfl, rfl⟩, e1, e2⟩
theorem both_cases (f r g s : ByteArray) (ht : tideB (f, r) = true) (hu : tideB (g, s) = true) : ∃ (p q : ByteArray) (e : Int) (o : Bool), Fits p q e o ∧
    (∀ W, Calls Try.prog 25 #[.agg #[.string f, .string r], .agg #[.string g, .string s]] W fun e' w' => e' = .returned (.tuple #[.agg #[.string p, .string q], .int .i64 e]) ∧ Below W.heap.size W w') ∧
    (∀ W, Calls Try.prog 46 #[.agg #[.string f, .string r], .agg #[.string g, .string s], .int .i64 0] W fun e' w' => e' = .returned (.tuple #[.agg #[.string p, .string q], .bool o]) ∧ Below W.heap.size W w') := by
  obtain ⟨z1, z2, z3⟩ := tideB_size ht
  obtain ⟨y1, y2, y3⟩ := tideB_size hu
  obtain ⟨K, D, hF, h1, h2⟩ := joins_made ht hu (fun a b => a && b)
  obtain ⟨p, q, e, o, hf, e1, e2⟩ := fits_rows h1 h2
  refine ⟨p, q, e, o, hf, fun W => ?_, fun W => refBoth_any f r g s W ht hu p q o e2⟩
  have := Both_any f r g s W (size_le _ z1) (size_le _ z2) (size_le _ y1) (size_le _ y2)
  unfold combR at this
  rw [ht, hu, Bool.and_self, if_pos rfl, e1] at this; exact this
theorem either_cases (f r g s : ByteArray) (ht : tideB (f, r) = true) (hu : tideB (g, s) = true) : ∃ (p q : ByteArray) (e : Int) (o : Bool), Fits p q e o ∧
    (∀ W, Calls Try.prog 26 #[.agg #[.string f, .string r], .agg #[.string g, .string s]] W fun e' w' => e' = .returned (.tuple #[.agg #[.string p, .string q], .int .i64 e]) ∧ Below W.heap.size W w') ∧
    (∀ W, Calls Try.prog 46 #[.agg #[.string f, .string r], .agg #[.string g, .string s], .int .i64 1] W fun e' w' => e' = .returned (.tuple #[.agg #[.string p, .string q], .bool o]) ∧ Below W.heap.size W w') := by
  obtain ⟨z1, z2, z3⟩ := tideB_size ht
  obtain ⟨y1, y2, y3⟩ := tideB_size hu
  obtain ⟨K, D, hF, h1, h2⟩ := joins_made ht hu (fun a b => a || b)
  obtain ⟨p, q, e, o, hf, e1, e2⟩ := fits_rows h1 h2
  refine ⟨p, q, e, o, hf, fun W => ?_, fun W => refEither_any f r g s W ht hu p q o e2⟩
  have := Either_any f r g s W (size_le _ z1) (size_le _ z2) (size_le _ y1) (size_le _ y2)
  unfold combR at this
  rw [ht, hu, Bool.and_self, if_pos rfl, e1] at this; exact this
set_option maxRecDepth 100000 in
set_option maxHeartbeats 4000000 in
theorem TideJoins_any (f r g s : ByteArray) (w : World) (x1 : f.size ≤ 9223372036854775807) (x2 : r.size ≤ 9223372036854775807) (x3 : g.size ≤ 9223372036854775807) (x4 : s.size ≤ 9223372036854775807) :
    Calls Try.prog 7 #[.agg #[.string f, .string r], .agg #[.string g, .string s]] w fun e w' => e = .returned (.bool true) ∧ Below w.heap.size w w' := by
  have HT : Hid (∀ (f r : ByteArray) W, f.size ≤ 9223372036854775807 → r.size ≤ 9223372036854775807 → Calls Try.prog 37 #[.agg #[.string f, .string r], .int .i64 60] W fun e w' => e = .returned (.agg #[.string (bitsV f 60), .string (tameR r 60)]) ∧ Below W.heap.size W w') := Lib.hid (fun f r W hf hr => tame_any f r 60 W hf hr (by omega))
  obtain ⟨ht, m1, m2⟩ := tame_facts f r 60 (by omega) (by omega)
  obtain ⟨hu, m3, m4⟩ := tame_facts g s 60 (by omega) (by omega)
  have TT := Lib.hid ht
  have TU := Lib.hid hu
  clear ht hu
  go_enter Try.func7, Try.ntmps7
  go_wp2_with fail
  obtain ⟨W0, hW0⟩ : ∃ W0, W0 = (w.alloc (.cells #[.string f, .string r] 23)).alloc (.cells #[.string g, .string s] 23) := ⟨_, rfl⟩
  rw [← hW0]
  have B0 : Hid (Below w.heap.size w W0) := Lib.hid (by rw [hW0]; exact ((Below.refl _ _).alloc (Nat.le_refl _) _).alloc (by simp) _)
  have s0 : Hid (W0.heap.size = w.heap.size + 2) := Lib.hid (by rw [hW0, size_al, size_al])
  have P : Hid (∀ W, Below W0.heap.size W0 W → W.cell? ⟨w.heap.size, 0, none⟩ = some (.string f) ∧ W.cell? ⟨w.heap.size, 1, none⟩ = some (.string r) ∧ W.cell? ⟨w.heap.size + 1, 0, none⟩ = some (.string g) ∧ W.cell? ⟨w.heap.size + 1, 1, none⟩ = some (.string s)) := Lib.hid (fun W h => by
    have := s0.out
    refine ⟨below_at h (by omega) ?_, below_at h (by omega) ?_, below_at h (by omega) ?_, below_at h (by omega) ?_⟩ <;> (rw [hW0]; simp [cell_al] <;> (intro h; omega)))
  clear hW0
  refine wp_region_slots (by kernel_rfl) (by kernel_rfl) [15, 16, 17, 18, 5, 6] (twoJ W0 (.agg #[.string f, .string r]) (.agg #[.string g, .string s]) (bitsV f 60) (tameR r 60) (bitsV g 60) (tameR s 60)) ⟨[undef, undef, undef, undef, undef, undef], rfl, false, false, false, false, false, false, false, false, _, _, _, _, _, _, rfl, rfl, ⟨(Below.refl _ _).drew, nofun, nofun, nofun, nofun, nofun, nofun, nofun, nofun, nofun⟩⟩ ?_ ?_
  · rintro i o bs vs W K ho ⟨b0, b1, b2, b3, b4, b5, b6, b7, v0, v1, v2, v3, v4, v5, rfl, rfl, J⟩ _ hb hw hK
    have HK := Lib.hid hK
    have HJ := Lib.hid J
    have HW := Lib.hid hw
    clear hK J hw
    match i with
    | 0 =>
      refine wpOp_of_list rfl ?_
      simp only [putAll, Act.put, List.setIfInBounds_toArray, List.set_cons_succ, List.set_cons_zero]
      obtain ⟨d0, d1, _, _⟩ := P.out W HJ.out.below
      clear HT hb ho
      go_wp2_with fail
      exact HK.out [.agg #[.string f, .string r], v1, v2, v3, v4, v5] _ ⟨true, b1, b2, b3, b4, b5, b6, b7, _, _, _, _, _, _, rfl, rfl, HJ.out.load0⟩
    | 2 =>
      refine wpOp_of_list rfl ?_
      simp only [putAll, Act.put, List.setIfInBounds_toArray, List.set_cons_succ, List.set_cons_zero]
      obtain ⟨_, _, d0, d1⟩ := P.out W HJ.out.below
      clear HT hb ho
      go_wp2_with fail
      exact HK.out [v0, v1, .agg #[.string g, .string s], v3, v4, v5] _ ⟨b0, b1, true, b3, b4, b5, b6, b7, _, _, _, _, _, _, rfl, rfl, HJ.out.load1⟩
    | 1 =>
      obtain rfl : _ = o := Option.some.inj ho
      have e1 : b0 = true := HW.out ⟨0, .data⟩ (by simp) rfl
      obtain rfl := HJ.out.l0 e1
      refine wpOp_of_list rfl ?_
      simp only [putAll, Act.put, List.setIfInBounds_toArray, List.set_cons_succ, List.set_cons_zero]
      clear hb ho
      go_wp2_with fail
      refine (HT.out _ _ _ x1 x2).mono ?_
      rintro e W' ⟨rfl, hb⟩
      have HB := Lib.hid hb
      clear hb
      go_wp2_with fail
      exact HK.out [_, .agg #[.string (bitsV f 60), .string (tameR r 60)], v2, v3, v4, v5] _ ⟨b0, true, b2, b3, b4, b5, b6, b7, _, _, _, _, _, _, rfl, rfl, HJ.out.call0 HB.out⟩
    | 3 =>
      obtain rfl : _ = o := Option.some.inj ho
      have e1 : b2 = true := HW.out ⟨2, .data⟩ (by simp) rfl
      obtain rfl := HJ.out.l1 e1
      refine wpOp_of_list rfl ?_
      simp only [putAll, Act.put, List.setIfInBounds_toArray, List.set_cons_succ, List.set_cons_zero]
      clear hb ho
      go_wp2_with fail
      refine (HT.out _ _ _ x3 x4).mono ?_
      rintro e W' ⟨rfl, hb⟩
      have HB := Lib.hid hb
      clear hb
      go_wp2_with fail
      exact HK.out [v0, v1, _, .agg #[.string (bitsV g 60), .string (tameR s 60)], v4, v5] _ ⟨b0, b1, b2, true, b4, b5, b6, b7, _, _, _, _, _, _, rfl, rfl, HJ.out.call1 HB.out⟩
    | 4 =>
      have e4 : b4 = false := by simpa using hb
      subst e4
      refine wpOp_of_list rfl ?_
      simp only [putAll, Act.put, List.setIfInBounds_toArray, List.set_cons_succ, List.set_cons_zero]
      clear hb ho
      go_wp2_with fail
      exact HK.out [v0, v1, v2, v3, .pointer (some ⟨W.heap.size, 0, none⟩), v5] _ ⟨b0, b1, b2, b3, true, b5, b6, b7, _, _, _, _, _, _, rfl, rfl, HJ.out.alloc0 24⟩
    | 5 =>
      have e4 : b5 = false := by simpa using hb
      subst e4
      refine wpOp_of_list rfl ?_
      simp only [putAll, Act.put, List.setIfInBounds_toArray, List.set_cons_succ, List.set_cons_zero]
      clear hb ho
      go_wp2_with fail
      exact HK.out [v0, v1, v2, v3, v4, .pointer (some ⟨W.heap.size, 0, none⟩)] _ ⟨b0, b1, b2, b3, b4, true, b6, b7, _, _, _, _, _, _, rfl, rfl, HJ.out.alloc1 24⟩
    | 6 =>
      obtain rfl : _ = o := Option.some.inj ho
      have e1 : b1 = true := HW.out ⟨1, .data⟩ (by simp) rfl
      have e4 : b4 = true := HW.out ⟨4, .data⟩ (by simp) rfl
      subst e4
      obtain rfl := HJ.out.c0 e1
      obtain ⟨p, rfl, hp⟩ := HJ.out.a0 rfl
      obtain ⟨_, p1, p2, p3, p4, p5⟩ := hp
      refine wpOp_of_list rfl ?_
      simp only [putAll, Act.put, List.setIfInBounds_toArray, List.set_cons_succ, List.set_cons_zero]
      clear hb ho
      go_wp2_with fail
      exact HK.out [v0, _, v2, v3, .pointer (some ⟨p, 0, none⟩), v5] _ ⟨b0, b1, b2, b3, true, b5, true, b7, _, _, _, _, _, _, rfl, rfl, HJ.out.store0⟩
    | 7 =>
      obtain rfl : _ = o := Option.some.inj ho
      have e1 : b3 = true := HW.out ⟨3, .data⟩ (by simp) rfl
      have e4 : b5 = true := HW.out ⟨5, .data⟩ (by simp) rfl
      subst e4
      obtain rfl := HJ.out.c1 e1
      obtain ⟨p, rfl, hp⟩ := HJ.out.a1 rfl
      obtain ⟨_, p1, p2, p3, p4, p5⟩ := hp
      refine wpOp_of_list rfl ?_
      simp only [putAll, Act.put, List.setIfInBounds_toArray, List.set_cons_succ, List.set_cons_zero]
      clear hb ho
      go_wp2_with fail
      exact HK.out [v0, v1, v2, _, v4, .pointer (some ⟨p, 0, none⟩)] _ ⟨b0, b1, b2, b3, b4, true, b6, true, _, _, _, _, _, _, rfl, rfl, HJ.out.store1⟩
    | i + 8 => simp at hb
  · rintro vs W ⟨b0, b1, b2, b3, b4, b5, b6, b7, v0, v1, v2, v3, v4, v5, hbs, rfl, J⟩
    simp only [List.length_cons, List.length_nil, List.replicate_succ, List.replicate_zero, List.cons.injEq, and_true] at hbs
    obtain ⟨rfl, rfl, rfl, rfl, rfl, rfl, rfl, rfl⟩ := hbs
    obtain rfl := J.l0 rfl
    obtain rfl := J.c0 rfl
    obtain rfl := J.l1 rfl
    obtain rfl := J.c1 rfl
    obtain ⟨p, rfl, hp⟩ := J.a0 rfl
    obtain ⟨q, rfl, hq⟩ := J.a1 rfl
    simp only [if_true] at hp hq
    have T := Lib.hid (B0.out.trans (J.below.mono (by have := s0.out; omega)))
    have C := Lib.hid (show Two W p (bitsV f 60) (tameR r 60) from ⟨hp.2.1, hp.2.2.1, hp.2.2.2.1⟩)
    have D := Lib.hid (show Two W q (bitsV g 60) (tameR s 60) from ⟨hq.2.1, hq.2.2.1, hq.2.2.2.1⟩)
    clear J hp hq HT P B0 s0
    generalize bitsV f 60 = F at *
    generalize tameR r 60 = R at *
    generalize bitsV g 60 = G at *
    generalize tameR s 60 = S at *
    simp only [putAll, Act.put, List.setIfInBounds_toArray, List.set_cons_succ, List.set_cons_zero]
    have GV : Hid (∀ (f r : ByteArray) W, Calls Try.prog 18 #[.agg #[.string f, .string r]] W fun e w' => e = .returned (.agg #[.string f, .string r]) ∧ Below W.heap.size W w') := Lib.hid given_any
    obtain ⟨p1, q1, e1, o1, f1, c1, c2⟩ := both_cases F R G S TT.out TU.out
    obtain ⟨p2, q2, e2, o2, f2, c3, c4⟩ := either_cases F R G S TT.out TU.out
    have H1 := Lib.hid c1
    have H2 := Lib.hid c2
    have H3 := Lib.hid c3
    have H4 := Lib.hid c4
    have F1 := Lib.hid f1
    have F2 := Lib.hid f2
    clear c1 c2 c3 c4 f1 f2
    go_wp2_with fail
    obtain ⟨V, hV⟩ : ∃ V : World, V = W := ⟨_, rfl⟩
    subst hV
    go_cut [7, 8] (fun tp te wx => ∃ b, tp = .pointer (some ⟨b, 0, none⟩) ∧ te = .int .i64 e1 ∧ Hid (Below V.heap.size V wx) ∧ Hid (Own2 wx V.heap.size b p1 q1))
    case first =>
      have BB : Below V.heap.size V V.drew := (Below.refl _ _).drew
      have SS : Hid (∀ W, Below V.heap.size V W → W.cell? ⟨p, 0, none⟩ = some (.string F) ∧ W.cell? ⟨p, 1, none⟩ = some (.string R) ∧ W.cell? ⟨q, 0, none⟩ = some (.string G) ∧ W.cell? ⟨q, 1, none⟩ = some (.string S)) := Lib.hid (fun W h => ⟨below_at h C.out.1 C.out.2.1, below_at h C.out.1 C.out.2.2, below_at h D.out.1 D.out.2.1, below_at h D.out.1 D.out.2.2⟩)
      go_region_held3 (fun W => W.cell? ⟨p, 0, none⟩ = some (.string F) ∧ W.cell? ⟨p, 1, none⟩ = some (.string R) ∧ W.cell? ⟨q, 0, none⟩ = some (.string G) ∧ W.cell? ⟨q, 1, none⟩ = some (.string S))
        (first
          | exact SS.out _ BB
          | exact SS.out _ (BB.alloc BB.size _)
          | exact SS.out _ ((BB.setCell (by first | exact BB.size | exact OW.1) _).setCell (by first | exact BB.size | exact OW.1) _))
        (first
          | (go_at_call 18; refine (GV.out _ _ _).mono ?_; rintro e wa ⟨rfl, hb⟩; (first | (have OW := (Own2.newd V (Nat.le_refl _) sZ sZ 23).below hb) | (have OW := (Own2.new _ (Nat.le_trans (Nat.le_refl _) (Below.size BB)) sZ sZ 23).below hb) | (replace OW := OW.below hb) | skip); (try (obtain ⟨k0, k1, k2, k3⟩ := OW.cells)); replace BB := (by first | exact Below.andThen BB hb (Nat.le_refl _) | exact Below.andThen (BB.alloc BB.size _) hb (Nat.le_refl _)))
          | (go_at_call 25; refine (H1.out _).mono ?_; rintro e wa ⟨rfl, hb⟩; (first | (have OW := (Own2.newd V (Nat.le_refl _) sZ sZ 23).below hb) | (have OW := (Own2.new _ (Nat.le_trans (Nat.le_refl _) (Below.size BB)) sZ sZ 23).below hb) | (replace OW := OW.below hb) | skip); (try (obtain ⟨k0, k1, k2, k3⟩ := OW.cells)); replace BB := (by first | exact Below.andThen BB hb (Nat.le_refl _) | exact Below.andThen (BB.alloc BB.size _) hb (Nat.le_refl _))))
      all_goals
        go_wp2_with fail
        go_meet
        clear SS
        first
          | exact ⟨_, rfl, rfl, Lib.hid (BB.alloc BB.size _), Lib.hid (Own2.new wa BB.size p1 q1 23)⟩
          | exact ⟨_, rfl, rfl, Lib.hid ((BB.setCell OW.1 _).setCell OW.1 _), Lib.hid (OW.store p1 q1)⟩
    case rest =>
      obtain ⟨b_7, rfl, rfl, hB, hO⟩ := hcut
      replace T := Lib.hid (Below.andThen T.out hB.out (Nat.le_refl _))
      replace C := Lib.hid (C.out.below hB.out)
      replace D := Lib.hid (D.out.below hB.out)
      have A7 := Lib.hid (show Two wc b_7 p1 q1 from ⟨hO.out.2.1, hO.out.2.2.1, hO.out.2.2.2.1⟩)
      clear hB hO
      go_wp2_with fail
      obtain ⟨V, hV⟩ : ∃ V : World, V = wc := ⟨_, rfl⟩
      subst hV
      go_cut [9, 10] (fun tp te wx => ∃ b, tp = .pointer (some ⟨b, 0, none⟩) ∧ te = .int .i64 e2 ∧ Hid (Below V.heap.size V wx) ∧ Hid (Own2 wx V.heap.size b p2 q2))
      case first =>
        have BB : Below V.heap.size V V.drew := (Below.refl _ _).drew
        have SS : Hid (∀ W, Below V.heap.size V W → W.cell? ⟨p, 0, none⟩ = some (.string F) ∧ W.cell? ⟨p, 1, none⟩ = some (.string R) ∧ W.cell? ⟨q, 0, none⟩ = some (.string G) ∧ W.cell? ⟨q, 1, none⟩ = some (.string S)) := Lib.hid (fun W h => ⟨below_at h C.out.1 C.out.2.1, below_at h C.out.1 C.out.2.2, below_at h D.out.1 D.out.2.1, below_at h D.out.1 D.out.2.2⟩)
        go_region_held3 (fun W => W.cell? ⟨p, 0, none⟩ = some (.string F) ∧ W.cell? ⟨p, 1, none⟩ = some (.string R) ∧ W.cell? ⟨q, 0, none⟩ = some (.string G) ∧ W.cell? ⟨q, 1, none⟩ = some (.string S))
          (first
            | exact SS.out _ BB
            | exact SS.out _ (BB.alloc BB.size _)
            | exact SS.out _ ((BB.setCell (by first | exact BB.size | exact OW.1) _).setCell (by first | exact BB.size | exact OW.1) _))
          (first
            | (go_at_call 18; refine (GV.out _ _ _).mono ?_; rintro e wa ⟨rfl, hb⟩; (first | (have OW := (Own2.newd V (Nat.le_refl _) sZ sZ 23).below hb) | (have OW := (Own2.new _ (Nat.le_trans (Nat.le_refl _) (Below.size BB)) sZ sZ 23).below hb) | (replace OW := OW.below hb) | skip); (try (obtain ⟨k0, k1, k2, k3⟩ := OW.cells)); replace BB := (by first | exact Below.andThen BB hb (Nat.le_refl _) | exact Below.andThen (BB.alloc BB.size _) hb (Nat.le_refl _)))
            | (go_at_call 26; refine (H3.out _).mono ?_; rintro e wa ⟨rfl, hb⟩; (first | (have OW := (Own2.newd V (Nat.le_refl _) sZ sZ 23).below hb) | (have OW := (Own2.new _ (Nat.le_trans (Nat.le_refl _) (Below.size BB)) sZ sZ 23).below hb) | (replace OW := OW.below hb) | skip); (try (obtain ⟨k0, k1, k2, k3⟩ := OW.cells)); replace BB := (by first | exact Below.andThen BB hb (Nat.le_refl _) | exact Below.andThen (BB.alloc BB.size _) hb (Nat.le_refl _))))
        all_goals
          go_wp2_with fail
          go_meet
          clear SS
          first
            | exact ⟨_, rfl, rfl, Lib.hid (BB.alloc BB.size _), Lib.hid (Own2.new wa BB.size p2 q2 23)⟩
            | exact ⟨_, rfl, rfl, Lib.hid ((BB.setCell OW.1 _).setCell OW.1 _), Lib.hid (OW.store p2 q2)⟩
      case rest =>
        obtain ⟨b_9, rfl, rfl, hB, hO⟩ := hcut
        replace T := Lib.hid (Below.andThen T.out hB.out (Nat.le_refl _))
        replace C := Lib.hid (C.out.below hB.out)
        replace D := Lib.hid (D.out.below hB.out)
        replace A7 := Lib.hid (A7.out.below hB.out)
        have A9 := Lib.hid (show Two wc b_9 p2 q2 from ⟨hO.out.2.1, hO.out.2.2.1, hO.out.2.2.2.1⟩)
        clear hB hO
        have d00 := C.out.2.1
        have d01 := C.out.2.2
        have d10 := D.out.2.1
        have d11 := D.out.2.2
        go_wp2_with fail
        refine (H2.out _).mono ?_
        rintro e u1 ⟨rfl, hb⟩
        clear d00 d01
        clear d10 d11
        replace T := Lib.hid (Below.al (Below.andThen T.out hb (Nat.le_refl _)) (Nat.le_refl _) (Obj.cells #[.string p1, .string q1] 24))
        replace C := Lib.hid ((C.out.below hb).alloc (Obj.cells #[.string p1, .string q1] 24))
        replace D := Lib.hid ((D.out.below hb).alloc (Obj.cells #[.string p1, .string q1] 24))
        replace A7 := Lib.hid ((A7.out.below hb).alloc (Obj.cells #[.string p1, .string q1] 24))
        replace A9 := Lib.hid ((A9.out.below hb).alloc (Obj.cells #[.string p1, .string q1] 24))
        have A11 := Lib.hid (Two.new u1 p1 q1 24)
        clear hb
        have d00 := C.out.2.1
        have d01 := C.out.2.2
        have d10 := D.out.2.1
        have d11 := D.out.2.2
        go_wp2_with fail
        refine (H4.out _).mono ?_
        rintro e u2 ⟨rfl, hb⟩
        clear d00 d01
        clear d10 d11
        replace T := Lib.hid (Below.al (Below.andThen T.out hb (Nat.le_refl _)) (Nat.le_refl _) (Obj.cells #[.string p2, .string q2] 24))
        replace A7 := Lib.hid ((A7.out.below hb).alloc (Obj.cells #[.string p2, .string q2] 24))
        replace A9 := Lib.hid ((A9.out.below hb).alloc (Obj.cells #[.string p2, .string q2] 24))
        replace A11 := Lib.hid ((A11.out.below hb).alloc (Obj.cells #[.string p2, .string q2] 24))
        have A13 := Lib.hid (Two.new u2 p2 q2 24)
        clear hb
        clear H1 H2 H3 H4
        rcases F1.out with ⟨rfl, rfl⟩ | ⟨rfl, rfl, rfl, rfl⟩
        · rcases F2.out with ⟨rfl, rfl⟩ | ⟨rfl, rfl, rfl, rfl⟩
          · have d00 := A7.out.2.1
            have d01 := A7.out.2.2
            have d10 := A11.out.2.1
            have d11 := A11.out.2.2
            go_wp2_with fail
            refine (same_self p1 q1 _).mono ?_
            rintro e u3 ⟨rfl, hb⟩
            clear d00 d01
            clear d10 d11
            replace T := Lib.hid (Below.andThen T.out hb (Nat.le_refl _))
            replace A9 := Lib.hid (A9.out.below hb)
            replace A13 := Lib.hid (A13.out.below hb)
            clear hb
            have d00 := A9.out.2.1
            have d01 := A9.out.2.2
            have d10 := A13.out.2.1
            have d11 := A13.out.2.2
            go_wp2_with fail
            refine (same_self p2 q2 _).mono ?_
            rintro e u4 ⟨rfl, hb⟩
            clear d00 d01
            clear d10 d11
            replace T := Lib.hid (Below.andThen T.out hb (Nat.le_refl _))
            clear hb
            go_wp2_with fail
            refine (awake_any _).mono ?_
            rintro e u5 ⟨rfl, hb⟩
            replace T := Lib.hid (Below.andThen T.out hb (Nat.le_refl _))
            clear hb
            go_wp2_with fail
            exact bodyPost_ret (v := .bool true) (by simp [results, Try.results7, go_sem]) rfl ⟨rfl, T.out⟩
          · have d00 := A7.out.2.1
            have d01 := A7.out.2.2
            have d10 := A11.out.2.1
            have d11 := A11.out.2.2
            go_wp2_with fail
            refine (same_self p1 q1 _).mono ?_
            rintro e u3 ⟨rfl, hb⟩
            clear d00 d01
            clear d10 d11
            replace T := Lib.hid (Below.andThen T.out hb (Nat.le_refl _))
            replace A9 := Lib.hid (A9.out.below hb)
            replace A13 := Lib.hid (A13.out.below hb)
            clear hb
            have d00 := A9.out.2.1
            have d01 := A9.out.2.2
            go_wp2_with fail
            refine (same_self { data := #[] } { data := #[] } _).mono ?_
            rintro e u4 ⟨rfl, hb⟩
            clear d00 d01
            replace T := Lib.hid (Below.andThen T.out hb (Nat.le_refl _))
            clear hb
            go_wp2_with fail
            refine (awake_any _).mono ?_
            rintro e u5 ⟨rfl, hb⟩
            replace T := Lib.hid (Below.andThen T.out hb (Nat.le_refl _))
            clear hb
            go_wp2_with fail
            exact bodyPost_ret (v := .bool true) (by simp [results, Try.results7, go_sem]) rfl ⟨rfl, T.out⟩
        · rcases F2.out with ⟨rfl, rfl⟩ | ⟨rfl, rfl, rfl, rfl⟩
          · have d00 := A7.out.2.1
            have d01 := A7.out.2.2
            go_wp2_with fail
            refine (same_self { data := #[] } { data := #[] } _).mono ?_
            rintro e u3 ⟨rfl, hb⟩
            clear d00 d01
            replace T := Lib.hid (Below.andThen T.out hb (Nat.le_refl _))
            replace A9 := Lib.hid (A9.out.below hb)
            replace A13 := Lib.hid (A13.out.below hb)
            clear hb
            have d00 := A9.out.2.1
            have d01 := A9.out.2.2
            have d10 := A13.out.2.1
            have d11 := A13.out.2.2
            go_wp2_with fail
            refine (same_self p2 q2 _).mono ?_
            rintro e u4 ⟨rfl, hb⟩
            clear d00 d01
            clear d10 d11
            replace T := Lib.hid (Below.andThen T.out hb (Nat.le_refl _))
            clear hb
            go_wp2_with fail
            refine (awake_any _).mono ?_
            rintro e u5 ⟨rfl, hb⟩
            replace T := Lib.hid (Below.andThen T.out hb (Nat.le_refl _))
            clear hb
            go_wp2_with fail
            exact bodyPost_ret (v := .bool true) (by simp [results, Try.results7, go_sem]) rfl ⟨rfl, T.out⟩
          · have d00 := A7.out.2.1
            have d01 := A7.out.2.2
            go_wp2_with fail
            refine (same_self { data := #[] } { data := #[] } _).mono ?_
            rintro e u3 ⟨rfl, hb⟩
            clear d00 d01
            replace T := Lib.hid (Below.andThen T.out hb (Nat.le_refl _))
            replace A9 := Lib.hid (A9.out.below hb)
            replace A13 := Lib.hid (A13.out.below hb)
            clear hb
            have d00 := A9.out.2.1
            have d01 := A9.out.2.2
            go_wp2_with fail
            refine (same_self { data := #[] } { data := #[] } _).mono ?_
            rintro e u4 ⟨rfl, hb⟩
            clear d00 d01
            replace T := Lib.hid (Below.andThen T.out hb (Nat.le_refl _))
            clear hb
            go_wp2_with fail
            refine (awake_any _).mono ?_
            rintro e u5 ⟨rfl, hb⟩
            replace T := Lib.hid (Below.andThen T.out hb (Nat.le_refl _))
            clear hb
            go_wp2_with fail
            exact bodyPost_ret (v := .bool true) (by simp [results, Try.results7, go_sem]) rfl ⟨rfl, T.out⟩
end Go.Proofs.Ytbhlddfjfcmncaa
