import Derived.Test.YtlamppplnojpbaaLg
import Derived.Test.YtlamppplnojpbaaZa
import Derived.Laws.AppendOwn
import Derived.ChangeKeysEq
import Derived.Maps.RangeWalk
import Derived.Maps.OwnIn
import Derived.Maps.AppendAt
import Derived.RangeFuncNested
import Derived.RangeFuncBound
import Derived.RangeFuncCalls
import Derived.RangeFuncLeaves
import Derived.Shelf.Abstract
import Derived.Shelf.RegionOpen
import Derived.WalkKit
import Derived.WalkMore
import Derived.OwnWalkIn
import Derived.TacticsInMore
import Derived.LoopNIn
import Derived.LoopIn
import Derived.WalkSpells
import Derived.WalkLawsBesides
import Derived.BigQuiet
import Derived.Deep.QuietTactic
import Derived.Lib.Hide
import Derived.Deep.DeepCutAuto
import Derived.Deep.RegionHeld3
import Derived.StillTailTactics
import Derived.Deep.LoopGhost
import Derived.Maps.OwnSet
import Derived.Lib.IndexAny
import Derived.Sort.QuietThIn
import Derived.Sort.QuietTacIn
import Derived.Sort.BigQuietIn
import Derived.Laws.OwnMore
namespace Go.Proofs.Ytlamppplnojpbaa
open Go.RowKit Go.Shelf
attribute [local go_sem] Oper.semAt_some
theorem two_M (a b amt : Int) (he : errT a b amt = 0) (r1 r2 : List (Int × Int)) (ok : Bool) (h1 : ringL true a b amt 4005 0 0 [] = some (r1, ok)) (h2 : ringL false a b amt 4005 0 0 [] = some (r2, ok)) (N : Nat) (hN : (if ok = true then ((min r1.length r2.length : Nat) : Int) else 0) = (N : Int)) (w : World) :
    Calls Try.prog 41 #[.int .i64 a, .int .i64 b, .int .i64 amt] w fun e w' => e = .returned (.tuple #[.int .i64 (N : Int), .bool ok, .int .i64 0]) ∧ Below w.heap.size w w' := by
  rw [← hN]
  exact Two_ok a b amt he 4005 (by omega) _ _ h1 h2 w
def twA (x : Int) : Int := 1 + x % 18446744073709551616 % 1000
theorem twA_raw (x : Int) : wrap64 (1 + wrap64 ((IntKind.u64.wrap x).tmod 1000)) = twA x := by
  have t1 : (IntKind.u64.wrap x).tmod 1000 = x % 18446744073709551616 % 1000 := by rw [u64_wrap]; exact Int.tmod_eq_emod_of_nonneg (by omega)
  unfold twA
  rw [t1]
  unfold wrap64
  omega
theorem inI_wrap (x : Int) : InI (wrap64 x) := by unfold InI wrap64; omega
theorem twA_bd (x : Int) : 1 ≤ twA x ∧ twA x ≤ 1000 := by unfold twA; omega
/-- what both calls of TwoWay and Two give -/
structure TwoC (a b k : Int) (n : Nat) (ok : Bool) (r1 r2 : List (Int × Int)) (er : Int) : Prop where
  two : ∀ w, Calls Try.prog 41 #[.int .i64 a, .int .i64 b, .int .i64 k] w fun e w' => e = .returned (.tuple #[.int .i64 (n : Int), .bool ok, .int .i64 er]) ∧ Below w.heap.size w w'
  way1 : ∀ w, Calls Try.prog 42 #[.int .i64 a, .int .i64 b, .int .i64 k, .bool true] w fun e w' => ∃ s, e = .returned (.tuple #[s, .bool ok, .int .i64 er]) ∧ OwnP w' w.heap.size s r1 ∧ Below w.heap.size w w'
  way2 : ∀ w, Calls Try.prog 42 #[.int .i64 a, .int .i64 b, .int .i64 k, .bool false] w fun e w' => ∃ s, e = .returned (.tuple #[s, .bool ok, .int .i64 er]) ∧ OwnP w' w.heap.size s r2 ∧ Below w.heap.size w w'
theorem twoC_err {a b k : Int} (h : errT a b k = 1) : TwoC a b k 0 false [] [] 1 :=
  ⟨fun w => Two_err a b k h w, fun w => (TwoWay_err a b k true h w).mono fun _e _w' ⟨h1, h2⟩ => ⟨_, h1, World.ownsRow_nil _ _ _ _, h2⟩, fun w => (TwoWay_err a b k false h w).mono fun _e _w' ⟨h1, h2⟩ => ⟨_, h1, World.ownsRow_nil _ _ _ _, h2⟩⟩
theorem errT_ok {a b k : Int} (h : errT a b k = 0) : (1 ≤ a ∧ a ≤ 1000) ∧ (1 ≤ b ∧ b ≤ 1000) ∧ (0 ≤ k ∧ k ≤ max a b) := by
  unfold errT at h
  split at h
  · omega
  · cases h
theorem twoC_no {a b k : Int} (h : errT a b k = 0) (hd : ¬ Nat.gcd a.toNat b.toNat ∣ k.toNat) : TwoC a b k 0 false [] [] 0 := by
  obtain ⟨ha, hb, hk⟩ := errT_ok h
  have f1 := two_no ha hb hk.1 hd true
  have f2 := two_no ha hb hk.1 hd false
  exact ⟨fun w => two_M a b k h [] [] false f1 f2 0 rfl w, fun w => TwoWay_ok a b k true h 4005 (by omega) _ f1 w, fun w => TwoWay_ok a b k false h 4005 (by omega) _ f2 w⟩
theorem twoC_yes {a b k : Int} (h : errT a b k = 0) (hd : Nat.gcd a.toNat b.toNat ∣ k.toNat) : ∃ j1 j2, j1 < 4004 ∧ j2 < 4004 ∧ TwoC a b k (min j1 j2) true (wayL true a b j1) (wayL false a b j2) 0 ∧
    (∀ w, Calls Try.prog 44 #[.int .i64 a, .int .i64 b, .int .i64 k, .bool true] w fun e w' => ∃ s, e = .returned s ∧ OwnP w' w.heap.size s (wayL true a b j1) ∧ Below w.heap.size w w') ∧
    (∀ w, Calls Try.prog 44 #[.int .i64 a, .int .i64 b, .int .i64 k, .bool false] w fun e w' => ∃ s, e = .returned s ∧ OwnP w' w.heap.size s (wayL false a b j2) ∧ Below w.heap.size w w') := by
  obtain ⟨ha, hb, hk⟩ := errT_ok h
  obtain ⟨j1, c1, c2, c3, c4⟩ := two_yes ha hb hk hd true
  obtain ⟨j2, d1, d2, d3, d4⟩ := two_yes ha hb hk hd false
  refine ⟨j1, j2, c1, d1, ⟨fun w => two_M a b k h _ _ true c4 d4 _ (by rw [if_pos rfl, wayL_len, wayL_len]) w, fun w => TwoWay_ok a b k true h 4005 (by omega) _ c4 w, fun w => TwoWay_ok a b k false h 4005 (by omega) _ d4 w⟩, fun w => refTwoWay_any true a b k ha hb j1 c1 c2 c3 w, fun w => refTwoWay_any false a b k ha hb j2 d1 d2 d3 w⟩
theorem errT_iff {a b k : Int} : errT a b k = 0 ↔ (1 ≤ a ∧ a ≤ 1000) ∧ (1 ≤ b ∧ b ≤ 1000) ∧ (0 ≤ k ∧ k ≤ max a b) := by
  constructor
  · exact errT_ok
  · intro h
    unfold errT
    rw [if_pos (by omega)]
def TwoRel (a b k : Int) (n : Nat) (ok : Bool) (r1 r2 : List (Int × Int)) (er : Int) : Prop :=
  (errT a b k = 1 ∧ n = 0 ∧ ok = false ∧ r1 = [] ∧ r2 = [] ∧ er = 1) ∨ (errT a b k = 0 ∧ ¬ Nat.gcd a.toNat b.toNat ∣ k.toNat ∧ n = 0 ∧ ok = false ∧ r1 = [] ∧ r2 = [] ∧ er = 0) ∨
  (errT a b k = 0 ∧ Nat.gcd a.toNat b.toNat ∣ k.toNat ∧ ok = true ∧ er = 0 ∧ n = min r1.length r2.length ∧ r1.length < 4004 ∧ r2.length < 4004 ∧ (∀ w, Calls Try.prog 44 #[.int .i64 a, .int .i64 b, .int .i64 k, .bool true] w fun e w' => ∃ s, e = .returned s ∧ OwnP w' w.heap.size s r1 ∧ Below w.heap.size w w') ∧
    (∀ w, Calls Try.prog 44 #[.int .i64 a, .int .i64 b, .int .i64 k, .bool false] w fun e w' => ∃ s, e = .returned s ∧ OwnP w' w.heap.size s r2 ∧ Below w.heap.size w w'))
theorem errT_two (a b k : Int) : errT a b k = 0 ∨ errT a b k = 1 := by unfold errT; split <;> simp
theorem twoC_all (a b k : Int) : ∃ n ok r1 r2 er, TwoC a b k n ok r1 r2 er ∧ TwoRel a b k n ok r1 r2 er := by
  rcases errT_two a b k with h | h
  · by_cases hd : Nat.gcd a.toNat b.toNat ∣ k.toNat
    · obtain ⟨j1, j2, h1, h2, h3, h4, h5⟩ := twoC_yes h hd
      exact ⟨_, _, _, _, _, h3, .inr (.inr ⟨h, hd, rfl, rfl, by rw [wayL_len, wayL_len], by rw [wayL_len]; exact h1, by rw [wayL_len]; exact h2, h4, h5⟩)⟩
    · exact ⟨_, _, _, _, _, twoC_no h hd, .inr (.inl ⟨h, hd, rfl, rfl, rfl, rfl, rfl⟩)⟩
  · exact ⟨_, _, _, _, _, twoC_err h, .inl ⟨h, rfl, rfl, rfl, rfl, rfl⟩⟩
set_option maxRecDepth 100000 in
set_option maxHeartbeats 4000000 in
theorem JugTwos_any (a0 b0 k0 : Int) (w : World) (h1 : InI a0) (h2 : InI b0) (h3 : InI k0) :
    Calls Try.prog 9 #[.int .i64 a0, .int .i64 b0, .int .i64 k0] w fun e w' => e = .returned (.bool true) ∧ Below w.heap.size w w' := by
  go_enter Try.func9, Try.ntmps9
  go_wp2_with fail
  go_loopw [0, 1, 2, 7] (fun av bv kv rv wr => ∃ (a b k : Int) (r : Nat), InI a ∧ InI b ∧ InI k ∧ r ≤ 3 ∧ av = .int .i64 a ∧ bv = .int .i64 b ∧ kv = .int .i64 k ∧ rv = .int .i64 (r : Int) ∧ Hid (Below w.heap.size w wr)) (fun _ _ _ rv _ => (3 - intOf rv).toNat)
  case atStart => exact ⟨a0, b0, k0, 0, h1, h2, h3, by omega, rfl, rfl, rfl, rfl, Lib.hid (Below.refl _ _)⟩
  case round =>
    clear h1 h2 h3
    obtain ⟨a, b, k, r, ia, ib, ik, hr, rfl, rfl, rfl, rfl, HB⟩ := hrel
    have IA := Lib.hid ia
    have IB := Lib.hid ib
    have IK := Lib.hid ik
    clear ia ib ik
    by_cases hr3 : r < 3
    · have hd : decide ((r : Int) < 3) = true := decide_eq_true (by omega)
      have hdn : decide (r < 3) = true := decide_eq_true hr3
      obtain ⟨n, ok, r1, r2, er, hC, hrel⟩ := twoC_all a b k
      have HREL := Lib.hid hrel
      have HC := Lib.hid hC
      clear hC hrel
      go_wp2_with fail
      refine (HC.out.two wr).mono ?_
      rintro e w1 ⟨rfl, hb1⟩
      have HB1 := Lib.hid (Below.andThen HB.out hb1 (Nat.le_refl _))
      clear hb1 HB
      go_wp2_with fail
      refine (HC.out.way1 w1).mono ?_
      rintro e w2 ⟨s1, rfl, hs1, hb2⟩
      have HB2 := Lib.hid (Below.andThen HB1.out hb2 (Nat.le_refl _))
      have HS1 := Lib.hid hs1
      clear hb2 HB1 hs1
      go_wp2_with fail
      refine (HC.out.way2 w2).mono ?_
      rintro e w3 ⟨s2, rfl, hs2, hb3⟩
      have HB3 := Lib.hid (Below.andThen HB2.out hb3 (Nat.le_refl _))
      have HS2 := Lib.hid hs2
      have HS1' := Lib.hid (own_grow HS1.out hb3)
      clear hb3 HB2 hs2 HS1
      go_upto_region 7 with fail
      obtain ⟨bad, hbad⟩ : ∃ bad, (!decide (errT a b k = 0)) = bad := ⟨_, rfl⟩
      have HBAD := Lib.hid hbad
      clear hbad
      go_cut [71] (fun t wx => t = .bool bad ∧ Hid (Below w3.heap.size w3 wx))
      case first =>
        as_aux_lemma =>
          go_wp2_with fail
          all_goals go_meet
          all_goals
            refine ⟨congrArg _ ?_, Lib.hid (Below.refl _ _)⟩
            rw [← HBAD.out, Bool.eq_iff_iff]
            simp only [Bool.or_eq_true, decide_eq_true_eq, Bool.not_eq_true', decide_eq_false_iff_not, errT_iff]
            try simp only [true_iff]
            omega
      case rest =>
        obtain ⟨rfl, HBC⟩ := hcut
        go_upto_if 71 with fail
        go_cut [17, 18] (fun t17 t18 wx => Hid (Below w.heap.size w wx))
        case first =>
          rcases HREL.out with ⟨h1, rfl, rfl, rfl, rfl, rfl⟩ | ⟨h1, hnd, rfl, rfl, rfl, rfl, rfl⟩ | ⟨h1, hnd, rfl, rfl, hn, l1, l2, R1, R2⟩
          · obtain rfl : bad = true := by rw [← HBAD.out, h1]; rfl
            obtain ⟨p1, c1, rfl, _⟩ := OwnP.open HS1'.out
            obtain ⟨p2, c2, rfl, _⟩ := OwnP.open HS2.out
            simp only [List.length_nil]
            clear h1
            as_aux_lemma =>
              go_wp2_with fail
              go_meet
              exact Lib.hid (Below.andThen HB3.out HBC.out (Nat.le_refl _))
          · obtain rfl : bad = false := by rw [← HBAD.out, h1]; rfl
            obtain ⟨p1, c1, rfl, _⟩ := OwnP.open HS1'.out
            obtain ⟨p2, c2, rfl, _⟩ := OwnP.open HS2.out
            simp only [List.length_nil]
            obtain ⟨⟨a1, a2⟩, ⟨b1, b2⟩, k1, k2⟩ := errT_ok h1
            obtain ⟨an, rfl⟩ := Int.eq_ofNat_of_zero_le (show 0 ≤ a by omega)
            obtain ⟨bn, rfl⟩ := Int.eq_ofNat_of_zero_le (show 0 ≤ b by omega)
            obtain ⟨kn, rfl⟩ := Int.eq_ofNat_of_zero_le (show 0 ≤ k by omega)
            rw [Int.toNat_natCast, Int.toNat_natCast, Int.toNat_natCast] at hnd
            have HM := Lib.hid (Measurable_any an bn kn (by omega) (by omega) (by omega) wc)
            rw [decide_eq_false hnd] at HM
            clear h1 hnd
            as_aux_lemma =>
              go_wp2_with fail
              refine HM.out.mono ?_
              rintro e w4 ⟨rfl, hb4⟩
              have HB4 := Lib.hid (Below.andThen (Below.andThen HB3.out HBC.out (Nat.le_refl _)) hb4 (Nat.le_refl _))
              clear hb4 HM
              go_wp2_with fail
              go_meet
              exact HB4
          · obtain rfl : bad = false := by rw [← HBAD.out, h1]; rfl
            obtain ⟨⟨a1, a2⟩, ⟨b1, b2⟩, k1, k2⟩ := errT_ok h1
            obtain ⟨an, rfl⟩ := Int.eq_ofNat_of_zero_le (show 0 ≤ a by omega)
            obtain ⟨bn, rfl⟩ := Int.eq_ofNat_of_zero_le (show 0 ≤ b by omega)
            obtain ⟨kn, rfl⟩ := Int.eq_ofNat_of_zero_le (show 0 ≤ k by omega)
            rw [Int.toNat_natCast, Int.toNat_natCast, Int.toNat_natCast] at hnd
            have HM := Lib.hid (Measurable_any an bn kn (by omega) (by omega) (by omega) wc)
            rw [decide_eq_true hnd] at HM
            have HN := Lib.hid hn
            have HR1 := Lib.hid R1
            have HR2 := Lib.hid R2
            clear h1 hnd hn R1 R2
            as_aux_lemma =>
              go_wp2_with fail
              refine HM.out.mono ?_
              rintro e w4 ⟨rfl, hb4⟩
              have HB4 := Lib.hid (Below.andThen HBC.out hb4 (Nat.le_refl _))
              clear hb4 HM
              go_wp2_with fail
              refine (HR1.out w4).mono ?_
              rintro e w5 ⟨q1, rfl, hq1, hb5⟩
              have HB5 := Lib.hid (Below.andThen HB4.out hb5 (Nat.le_refl _))
              have HQ1 := Lib.hid hq1
              clear hb5 HB4 hq1
              go_wp2_with fail
              refine (HR2.out w5).mono ?_
              rintro e w6 ⟨q2, rfl, hq2, hb6⟩
              have HB6 := Lib.hid (Below.andThen HB5.out hb6 (Nat.le_refl _))
              have HQ1' := Lib.hid (own_grow HQ1.out hb6)
              have HQ2 := Lib.hid hq2
              clear hb6 HB5 hq2 HQ1
              have HP1 := Lib.hid (pairs_any r1 s1 q1 _ _ w6 (own_grow HS1'.out HB6.out) HQ1'.out (by omega))
              have HP2 := Lib.hid (fun (W : World) (hb : Below w6.heap.size w6 W) => pairs_any r2 s2 q2 _ _ W (own_grow (own_grow HS2.out HB6.out) hb) (own_grow HQ2.out hb) (by omega))
              obtain ⟨p1, c1, rfl, _⟩ := OwnP.open HQ1'.out
              obtain ⟨p2, c2, rfl, _⟩ := OwnP.open HQ2.out
              go_wp2_with fail
              refine HP1.out.mono ?_
              rintro e w7 ⟨rfl, hb7⟩
              have HB7 := Lib.hid hb7
              clear hb7 HP1
              go_wp2_with fail
              refine (HP2.out w7 HB7.out).mono ?_
              rintro e w8 ⟨rfl, hb8⟩
              have HB8 := Lib.hid (Below.andThen (Below.andThen (Below.andThen HB3.out HB6.out (Nat.le_refl _)) HB7.out (Nat.le_refl _)) hb8 (Nat.le_refl _))
              clear hb8 HP2
              rcases Nat.lt_trichotomy r1.length r2.length with hm | hm | hm
              · have e1 : ((n : Int) != (r1.length : Int)) = false := by have := HN.out; simp; omega
                go_wp2_with fail
                all_goals try (exfalso; omega)
                all_goals go_meet
                all_goals exact HB8
              · have e1 : ((n : Int) != (r1.length : Int)) = false := by have := HN.out; simp; omega
                have e2 : ((n : Int) != (r2.length : Int)) = false := by have := HN.out; simp; omega
                have hm := Lib.hid hm
                go_wp2_with fail
                all_goals go_meet
                all_goals exact HB8
              · have e2 : ((n : Int) != (r2.length : Int)) = false := by have := HN.out; simp; omega
                go_wp2_with fail
                all_goals try (exfalso; omega)
                all_goals go_meet
                all_goals exact HB8
        case rest =>
          have HBC2 := hcut
          clear hcut HBC
          have ra := twA_raw a
          have rb := twA_raw b
          have ba := twA_bd a
          have bb := twA_bd b
          generalize twA a = A at *
          generalize twA b = B at *
          have rw1 : IntKind.i64.wrap ((r : Int) + 1) = ((r + 1 : Nat) : Int) := by rw [i64_of _ (by omega) (by omega)]; omega
          by_cases hr1 : r = 1
          · have hd1 : ((r : Int) == 1) = true := by simp [hr1]
            clear hr1
            as_aux_lemma =>
              go_wp2_with fail
              all_goals exact ⟨⟨_, _, _, r + 1, by unfold InI; omega, by unfold InI; omega, inI_wrap _, by omega, rfl, rfl, rfl, by simp, HBC2⟩, by simp [intOf]; omega⟩
          · have hd1 : ((r : Int) == 1) = false := by simp; omega
            clear hr1
            as_aux_lemma =>
              go_wp2_with fail
              all_goals exact ⟨⟨_, _, _, r + 1, by unfold InI; omega, by unfold InI; omega, inI_wrap _, by omega, rfl, rfl, rfl, by simp, HBC2⟩, by simp [intOf]; omega⟩
    · have hd : decide ((r : Int) < 3) = false := decide_eq_false (by omega)
      have hdn : decide (r < 3) = false := decide_eq_false hr3
      go_wp2_with fail
      refine (awake_any _).mono ?_
      rintro e w3 ⟨rfl, hb⟩
      have HE := Lib.hid (Below.andThen HB.out hb (Nat.le_refl _))
      clear hb
      go_wp2_with fail
      go_ret
      exact ⟨rfl, HE.out⟩
end Go.Proofs.Ytlamppplnojpbaa
