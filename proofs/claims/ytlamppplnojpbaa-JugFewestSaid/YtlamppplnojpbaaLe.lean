import Derived.Test.YtlamppplnojpbaaLd
import Derived.Test.YtlamppplnojpbaaZa
import Derived.Laws.AppendOwn
import Derived.ChangeKeysEq
import Derived.Maps.RangeWalk
import Derived.Maps.OwnIn
import Derived.Maps.AppendAt
import Derived.RangeFuncNested
import Derived.RangeFuncBound
import Derived.RangeFuncCalls
import Derived.RangeFuncLeaves
import Derived.Shelf.Abstract
import Derived.Shelf.RegionOpen
import Derived.WalkKit
import Derived.WalkMore
import Derived.OwnWalkIn
import Derived.TacticsInMore
import Derived.LoopNIn
import Derived.LoopIn
import Derived.WalkSpells
import Derived.WalkLawsBesides
import Derived.BigQuiet
import Derived.Deep.QuietTactic
import Derived.Lib.Hide
import Derived.Deep.RegionHeld3
import Derived.StillTailTactics
import Derived.Deep.LoopGhost
import Derived.Maps.OwnSet
import Derived.Lib.IndexAny
import Derived.Sort.QuietThIn
import Derived.Sort.QuietTacIn
import Derived.Sort.BigQuietIn
import Derived.Laws.OwnMore
namespace Go.Proofs.Ytlamppplnojpbaa
open Go.RowKit Go.Shelf
attribute [local go_sem] Oper.semAt_some
theorem sw_of {f : Bool} {a b amt : Int} {r : List (Int × Int) × Bool} (h : ringL f a b amt 4005 0 0 [] = some r) : ringL (!f) b a amt 4005 0 0 [] = some (r.1.map swS, r.2) := by
  have := ring_sw f a b amt 4005 0 0 []
  rw [h] at this
  exact this
def stpIn (p : Int × Int) : Prop := (p.1 = -1 ∨ p.1 = 0 ∨ p.1 = 1) ∧ (p.2 = -1 ∨ p.2 = 0 ∨ p.2 = 1)
theorem wayL_in (f : Bool) (a b : Int) (k : Nat) : ∀ p ∈ wayL f a b k, stpIn p := fun p hp => by
  obtain ⟨i, _, rfl⟩ := List.mem_map.1 hp
  have := stp_ok f a b (orb f a b i).1 (orb f a b i).2
  exact ⟨this.1, this.2.1⟩
/-- both rules' ways, and the search's, of two small jugs -/
theorem few_facts {a b amt : Int} (ha : 1 ≤ a ∧ a ≤ 12) (hb : 1 ≤ b ∧ b ≤ 12) (h0 : 0 ≤ amt ∧ amt ≤ max a b) : ∃ (ok : Bool) (r1 r2 : List (Int × Int)) (res : Sn × Option (List Int)),
    ringL true a b amt 4005 0 0 [] = some (r1, ok) ∧ ringL false a b amt 4005 0 0 [] = some (r2, ok) ∧ srch (padF [a, b]) (glA 2 amt) (stepsL (-1) 3) 28562 [0, 0, 0, 0] = some res ∧ res.2.isSome = ok ∧
    ((wayF res).length : Int) = (if ok = true then ((min r1.length r2.length : Nat) : Int) else 0) ∧ (ok = false → r1 = []) ∧ (∀ p ∈ r1, stpIn p) ∧ r1.length ≤ 4004 ∧ r2.length ≤ 4004 := by
  have hp : padF [a, b] = [a, b, 0, 0] := rfl
  rw [hp]
  have hfit0 : FitP [a, b, 0, 0] [0, 0, 0, 0] := ⟨rfl, fun i hi => by
    match i, hi with
    | 0, _ => simp; omega
    | 1, _ => simp; omega
    | 2, _ => simp
    | 3, _ => simp⟩
  obtain ⟨res, hres⟩ := srch_ends [a, b, 0, 0] (glA 2 amt) (-1) 3 (.inl rfl) (by decide) [0, 0, 0, 0] hfit0
  have hL := srch_least _ _ _ _ _ _ hres
  obtain ⟨ht, hs, hf⟩ := srch_tree [a, b, 0, 0] (glA 2 amt) (-1) 3 (.inl rfl) (by decide) [0, 0, 0, 0] hfit0 28562 res hres
  have ha' : 1 ≤ a ∧ a ≤ 1000 := by omega
  have hb' : 1 ≤ b ∧ b ≤ 1000 := by omega
  by_cases hd : Nat.gcd a.toNat b.toNat ∣ amt.toNat
  · obtain ⟨j1, j1a, j1b, j1c, j1d⟩ := two_yes ha' hb' h0 hd true
    obtain ⟨j2, j2a, j2b, j2c, j2d⟩ := two_yes ha' hb' h0 hd false
    have hg1 : glA 2 amt [(orb true a b j1).1, (orb true a b j1).2, 0, 0] = true := by
      unfold glA; rw [holds2]; exact decide_eq_true j1b
    have hg2 : glA 2 amt [(orb false a b j2).1, (orb false a b j2).2, 0, 0] = true := by
      unfold glA; rw [holds2]; exact decide_eq_true j2b
    obtain ⟨g, hg⟩ : ∃ g, res.2 = some g := by
      rcases h : res.2 with _ | g
      · obtain ⟨n1, n2⟩ := hL.non h
        obtain ⟨c, hc, _⟩ := n1 _ _ (orb_rch ha.1 hb.1 true j1)
        rw [n2 _ _ hc] at hg1; cases hg1
      · exact ⟨g, rfl⟩
    obtain ⟨hgg, c, hc, hmin⟩ := hL.got g hg
    have hk0 := (ht.knn hc).1
    have hlow := two_min ha.1 hb.1 j1c j2c (ht.rch hc) hgg
    have hup1 := hmin _ _ (orb_rch ha.1 hb.1 true j1) hg1
    have hup2 := hmin _ _ (orb_rch ha.1 hb.1 false j2) hg2
    refine ⟨true, wayL true a b j1, wayL false a b j2, res, j1d, j2d, hres, by rw [hg]; rfl, ?_, (fun h => by cases h), wayL_in _ _ _ _, by rw [wayL_len]; omega, by rw [wayL_len]; omega⟩
    have hcm : cmOf res.1 g = c := by unfold cmOf; rw [hc]; rfl
    unfold wayF
    rw [hg]
    dsimp only
    rw [List.length_reverse, trc_len, hcm, if_pos rfl, wayL_len, wayL_len]
    omega
  · have hno := two_no ha' hb' h0.1 hd true
    have hno2 := two_no ha' hb' h0.1 hd false
    have hnone : res.2 = none := by
      rcases h : res.2 with _ | g
      · rfl
      · exfalso
        obtain ⟨h1, h2⟩ := hf g h
        obtain ⟨c, hc⟩ := Option.isSome_iff_exists.1 h1
        obtain ⟨s, hs, _⟩ := rch_two ha.1 hb.1 (ht.rch hc)
        have hr := ht.rch hc
        rw [hs] at h2 hr
        unfold glA at h2
        rw [holds2, decide_eq_true_eq] at h2
        obtain ⟨i, hi⟩ := ring_meets ha' hb' true hr h2
        obtain ⟨d1, d2⟩ := orb_dvd ha.1 hb.1 true i
        refine hd (Int.natCast_dvd_natCast.1 ?_)
        rw [Int.toNat_of_nonneg h0.1]
        rcases hi with h | h
        · rw [← h]; exact d1
        · rw [← h]; exact d2
    refine ⟨false, [], [], res, hno, hno2, hres, by rw [hnone]; rfl, ?_, (fun _ => rfl), (fun p hp => by cases hp), by simp, by simp⟩
    unfold wayF
    rw [hnone]; rfl
theorem sli_two (w : World) (a b : Int) : SlI (w.alloc (.cells #[.int .i64 a, .int .i64 b] 3)) (.slice (some ⟨w.heap.size, 0, none⟩) 2 2) [a, b] := sli_new w [a, b]
theorem jugs_two {a b : Int} (ha : 1 ≤ a ∧ a ≤ 12) (hb : 1 ≤ b ∧ b ≤ 12) : jugsB [a, b] = true := by
  unfold jugsB sizeB
  simp only [List.length_cons, List.length_nil, List.all_cons, List.all_nil, Bool.and_true, Bool.and_eq_true, decide_eq_true_eq]
  omega
theorem hsa_grow {a : Option Addr} {c n₀ : Nat} {ps : List Pt} {w w' : World} (h : a = none ∧ c = 0 ∧ ps = [] ∨ ∃ g, n₀ ≤ g ∧ a = some ⟨g, 0, none⟩ ∧ PtsAt w g 0 ps ∧ ps.length ≤ c) (hb : Below w.heap.size w w') :
    a = none ∧ c = 0 ∧ ps = [] ∨ ∃ g, n₀ ≤ g ∧ a = some ⟨g, 0, none⟩ ∧ PtsAt w' g 0 ps ∧ ps.length ≤ c :=
  h.imp id (fun ⟨g, h1, h2, h3, h4⟩ => ⟨g, h1, h2, h3.grow hb, h4⟩)
theorem two_N (a b amt : Int) (he : errT a b amt = 0) (r1 r2 : List (Int × Int)) (ok : Bool) (h1 : ringL true a b amt 4005 0 0 [] = some (r1, ok)) (h2 : ringL false a b amt 4005 0 0 [] = some (r2, ok)) (N : Nat) (hN : (if ok = true then ((min r1.length r2.length : Nat) : Int) else 0) = (N : Int)) (w : World) :
    Calls Try.prog 41 #[.int .i64 a, .int .i64 b, .int .i64 amt] w fun e w' => e = .returned (.tuple #[.int .i64 (N : Int), .bool ok, .int .i64 0]) ∧ Below w.heap.size w w' := by
  rw [← hN]
  exact Two_ok a b amt he 4005 (by omega) _ _ h1 h2 w
theorem swI_val {z : Int} (h : z = -1 ∨ z = 0 ∨ z = 1) : (z = -1 ∧ swI z = -1) ∨ (z = 0 ∧ swI z = 1) ∨ (z = 1 ∧ swI z = 0) := by
  rcases h with rfl | rfl | rfl <;> decide
set_option maxRecDepth 100000 in
set_option maxHeartbeats 8000000 in
theorem JugFewest_lt_false (x y z : Int) (a b amt : Int) (ha : 1 ≤ a ∧ a ≤ 12) (hb : 1 ≤ b ∧ b ≤ 12) (h0 : 0 ≤ amt ∧ amt ≤ max a b) (hx : tamA x = a) (hy : tamA y = b) (hz : filA z (max a b) = amt) (hab : a < b) (ok : Bool) (hok : ok = false) (r1 r2 : List (Int × Int)) (res : Sn × Option (List Int)) (f1 : ringL true a b amt 4005 0 0 [] = some (r1, ok)) (f2 : ringL false a b amt 4005 0 0 [] = some (r2, ok)) (f3 : srch (padF [a, b]) (glA 2 amt) (stepsL (-1) 3) 28562 [0, 0, 0, 0] = some res) (f4 : res.2.isSome = ok)
    (f5 : ((wayF res).length : Int) = (if ok = true then ((min r1.length r2.length : Nat) : Int) else 0)) (f7 : ∀ p ∈ r1, stpIn p) (f8 : r1.length ≤ 4004) (w : World) :
    Calls Try.prog 12 #[.int .i64 x, .int .i64 y, .int .i64 z] w fun e w' => e = .returned (.bool true) ∧ Below w.heap.size w w' := by
  have rx := tamA_raw x
  have ry := tamA_raw y
  have rz := filA_raw z (max a b) (by omega)
  rw [hx] at rx
  rw [hy] at ry
  rw [hz] at rz
  clear hx hy hz
  have e1 : IntKind.u64.wrap (max a b + 1) = max a b + 1 := by rw [u64_wrap]; omega
  rw [e1] at rz
  clear e1
  have HE := show errT a b amt = 0 by unfold errT; rw [if_pos (by omega)]
  have HE2 := show errT b a amt = 0 by unfold errT; rw [if_pos (by omega)]
  have HEM := show errM [a, b] amt = 0 by
    unfold errM
    rw [if_pos (jugs_two ha hb), if_pos (by omega)]
  obtain ⟨N, hN⟩ : ∃ N : Nat, (if ok = true then ((min r1.length r2.length : Nat) : Int) else 0) = (N : Int) := by
    cases ok
    · exact ⟨0, rfl⟩
    · exact ⟨_, rfl⟩
  have hN2 : (if ok = true then ((min (r2.map swS).length (r1.map swS).length : Nat) : Int) else 0) = (N : Int) := by
    rw [List.length_map, List.length_map, Nat.min_comm]; exact hN
  have hNl : ok = true → N ≤ r1.length := fun h => by rw [if_pos h] at hN; omega
  rw [hN] at f5
  have C1 := Lib.hid (fun w => two_N a b amt HE r1 r2 ok f1 f2 N hN w)
  have C2 := Lib.hid (fun w : World => by
    have h := Fewest_ok [a, b] _ amt _ (sli_two w a b) (by simp) HEM (jugs_two ha hb) res f3
    rw [f5, f4] at h
    exact h)
  have C3 := Lib.hid (fun w => two_N b a amt HE2 _ _ ok (sw_of f2) (sw_of f1) N hN2 w)
  have C4 := Lib.hid (fun w => TwoWay_ok a b amt true HE 4005 (by omega) _ f1 w)
  have C5 := Lib.hid (fun w => TwoWay_ok b a amt false HE2 4005 (by omega) _ (sw_of f1) w)
  have F7 := Lib.hid f7
  clear f1 f2 f3 f4 f5 f7 HE HE2 HEM hN hN2
  dsimp only at C4 C5
  have hml : (r1.map swS).length = r1.length := List.length_map _
  have HMG := Lib.hid (show ∀ j (h : j < r1.length) (h' : j < (r1.map swS).length), (r1.map swS)[j] = swS r1[j] from fun j h h' => by simp)
  generalize r1.map swS = v1 at *
  have HML := Lib.hid hml
  clear hml
  have hcmp : decide ((r1.length : Int) < (N : Int)) = false ∨ ok = false := by
    cases ok
    · exact .inr rfl
    · exact .inl (decide_eq_false (by have := hNl rfl; omega))
  have HCMP := Lib.hid hcmp
  clear hcmp hNl
  subst hok
  have hm : max a b = b := by omega
  rw [hm] at rz h0
  clear hm
  go_enter Try.func12, Try.ntmps12
  go_wp2_with fail
  all_goals try (exfalso; omega)
  all_goals
    try simp only [rx, ry, rz]
    clear rx ry rz
    refine (C1.out w).mono ?_
    rintro e w1 ⟨rfl, hb1⟩
    have HB1 := Lib.hid hb1
    clear hb1
    go_wp2_with fail
    refine (C2.out w1).mono ?_
    rintro e w2 ⟨rfl, hb2⟩
    have HB2 := Lib.hid (Below.andThen (Below.al HB1.out (Nat.le_refl _) _) hb2 (Nat.le_refl _))
    clear hb2 HB1
    go_wp2_with fail
    refine (C3.out w2).mono ?_
    rintro e w3 ⟨rfl, hb3⟩
    have HB3 := Lib.hid (Below.andThen HB2.out hb3 (Nat.le_refl _))
    clear hb3 HB2
    go_wp2_with fail
    refine (C4.out w3).mono ?_
    rintro e w4 ⟨s, rfl, hs, hb4⟩
    obtain ⟨sa, sc, rfl, hsa⟩ := hs.open
    have HS4 := Lib.hid hsa
    have HB4 := Lib.hid (Below.andThen HB3.out hb4 (Nat.le_refl _))
    clear hb4 HB3 hs hsa
    go_wp2_with fail
    refine (C5.out w4).mono ?_
    rintro e w5 ⟨t, rfl, ht, hb5⟩
    obtain ⟨ta, tc, rfl, hta⟩ := ht.open
    rw [HML.out]
    have HS5 := Lib.hid (hsa_grow HS4.out hb5)
    have HT5 := Lib.hid hta
    have HB5 := Lib.hid (Below.andThen HB4.out hb5 (Nat.le_refl _))
    clear hb5 HB4 ht hta HS4
    have hn1 : ((N : Int) != (N : Int)) = false := by simp
    have hn2 : ((r1.length : Int) != (r1.length : Int)) = false := by simp
    clear HCMP
    go_wp2_with fail
    go_loopw [22] (fun jv wx => ∃ j : Nat, j ≤ r1.length ∧ jv = .int .i64 (j : Int) ∧ Hid (Below w5.heap.size w5 wx)) (fun jv _ => (r1.length - intOf jv).toNat)
    case atStart => exact ⟨0, by omega, rfl, Lib.hid (Below.refl _ _)⟩
    case round =>
      obtain ⟨j, hj, rfl, HBX⟩ := hrel
      have kw : IntKind.i64.wrap ((j : Int) + 1) = ((j + 1 : Nat) : Int) := by rw [i64_of _ (by omega) (by omega)]; omega
      by_cases hjl : j < r1.length
      · have hd2 : decide ((j : Int) < (r1.length : Int)) = true := decide_eq_true (by omega)
        have hd2n : decide (j < r1.length) = true := decide_eq_true hjl
        obtain ⟨gs, rfl, hps⟩ : ∃ gs, sa = some ⟨gs, 0, none⟩ ∧ PtsAt w5 gs 0 r1 := by
          rcases HS5.out with ⟨_, _, h⟩ | ⟨g, _, h, h2, _⟩
          · rw [h] at hjl; exact absurd hjl (by simp)
          · exact ⟨g, h, h2⟩
        have hjv : j < v1.length := by rw [HML.out]; exact hjl
        obtain ⟨gt, rfl, hpt⟩ : ∃ gt, ta = some ⟨gt, 0, none⟩ ∧ PtsAt w5 gt 0 v1 := by
          rcases HT5.out with ⟨_, _, h⟩ | ⟨g, _, h, h2, _⟩
          · rw [h] at hjv; exact absurd hjv (by simp)
          · exact ⟨g, h, h2⟩
        have hmg := HMG.out j hjl hjv
        have hst : (r1[j].1 = -1 ∨ r1[j].1 = 0 ∨ r1[j].1 = 1) ∧ (r1[j].2 = -1 ∨ r1[j].2 = 0 ∨ r1[j].2 = 1) := F7.out _ (List.getElem_mem hjl)
        have hcs : ∀ W, Below w5.heap.size w5 W → W.cell? ⟨gs, j * 2, none⟩ = some (.int .i64 r1[j].1) ∧ W.cell? ⟨gs, j * 2 + 1, none⟩ = some (.int .i64 r1[j].2) := fun W hb => by
          have h := hps.grow hb
          exact ⟨by simpa using h.x j hjl, by simpa using h.y j hjl⟩
        have hct : ∀ W, Below w5.heap.size w5 W → W.cell? ⟨gt, j * 2, none⟩ = some (.int .i64 (swI r1[j].1)) ∧ W.cell? ⟨gt, j * 2 + 1, none⟩ = some (.int .i64 (swI r1[j].2)) := fun W hb => by
          have h := hpt.grow hb
          have h1 := h.x j hjv
          have h2 := h.y j hjv
          rw [hmg] at h1 h2
          have k1 : W.cell? ⟨gt, j * 2, none⟩ = some (.int .i64 (swS r1[j]).1) := by simpa using h1
          have k2 : W.cell? ⟨gt, j * 2 + 1, none⟩ = some (.int .i64 (swS r1[j]).2) := by simpa using h2
          exact ⟨k1, k2⟩
        generalize r1[j].1 = px at *
        generalize r1[j].2 = py at *
        have HPX := Lib.hid (swI_val hst.1)
        have HPY := Lib.hid (swI_val hst.2)
        have HCS := Lib.hid hcs
        have HCT := Lib.hid hct
        clear hcs hct hps hpt hmg hst
        go_wp2_with fail
        go_loopw [23] (fun pv wx => ∃ p : Nat, p ≤ 2 ∧ pv = .int .i64 (p : Int) ∧ Hid (Below w5.heap.size w5 wx)) (fun pv _ => (2 - intOf pv).toNat)
        case atStart => exact ⟨0, by omega, rfl, HBX⟩
        case round =>
          obtain ⟨p, hp, rfl, HBP⟩ := hrel
          rcases (show p = 0 ∨ p = 1 ∨ p = 2 by omega) with rfl | rfl | rfl
          · obtain ⟨c1, c2⟩ := HCS.out _ HBP.out
            obtain ⟨c3, c4⟩ := HCT.out _ HBP.out
            rcases HPX.out with ⟨h1, h2⟩ | ⟨h1, h2⟩ | ⟨h1, h2⟩
            all_goals
              rw [h1] at c1
              rw [h2] at c3
              clear h1 h2
              go_wp2_with fail
              go_quiet (fail)
              go_wp2_with fail
              go_roundw
              case rel => exact ⟨1, by omega, by simp, Lib.hid (below_drewN HBP.out _)⟩
              case measure => simp [intOf]
          · obtain ⟨c1, c2⟩ := HCS.out _ HBP.out
            obtain ⟨c3, c4⟩ := HCT.out _ HBP.out
            rcases HPY.out with ⟨h1, h2⟩ | ⟨h1, h2⟩ | ⟨h1, h2⟩
            all_goals
              rw [h1] at c2
              rw [h2] at c4
              clear h1 h2
              go_wp2_with fail
              go_quiet (fail)
              go_wp2_with fail
              go_roundw
              case rel => exact ⟨2, by omega, by simp, Lib.hid (below_drewN HBP.out _)⟩
              case measure => simp [intOf]
          · go_wp2_with fail
            go_roundw
            case rel => exact ⟨j + 1, by omega, by simp, HBP⟩
            case measure => simp [intOf]; omega
      · have hd2 : decide ((j : Int) < (r1.length : Int)) = false := decide_eq_false (by omega)
        have hd2n : decide (j < r1.length) = false := decide_eq_false hjl
        go_wp2_with fail
        refine (awake_any _).mono ?_
        rintro e w6 ⟨rfl, hb⟩
        have HE := Lib.hid (Below.andThen (Below.andThen HB5.out HBX.out (Nat.le_refl _)) hb (Nat.le_refl _))
        clear hb
        go_wp2_with fail
        go_ret
        exact ⟨rfl, HE.out⟩
set_option maxRecDepth 100000 in
set_option maxHeartbeats 8000000 in
theorem JugFewest_lt_true (x y z : Int) (a b amt : Int) (ha : 1 ≤ a ∧ a ≤ 12) (hb : 1 ≤ b ∧ b ≤ 12) (h0 : 0 ≤ amt ∧ amt ≤ max a b) (hx : tamA x = a) (hy : tamA y = b) (hz : filA z (max a b) = amt) (hab : a < b) (ok : Bool) (hok : ok = true) (r1 r2 : List (Int × Int)) (res : Sn × Option (List Int)) (f1 : ringL true a b amt 4005 0 0 [] = some (r1, ok)) (f2 : ringL false a b amt 4005 0 0 [] = some (r2, ok)) (f3 : srch (padF [a, b]) (glA 2 amt) (stepsL (-1) 3) 28562 [0, 0, 0, 0] = some res) (f4 : res.2.isSome = ok)
    (f5 : ((wayF res).length : Int) = (if ok = true then ((min r1.length r2.length : Nat) : Int) else 0)) (f7 : ∀ p ∈ r1, stpIn p) (f8 : r1.length ≤ 4004) (w : World) :
    Calls Try.prog 12 #[.int .i64 x, .int .i64 y, .int .i64 z] w fun e w' => e = .returned (.bool true) ∧ Below w.heap.size w w' := by
  have rx := tamA_raw x
  have ry := tamA_raw y
  have rz := filA_raw z (max a b) (by omega)
  rw [hx] at rx
  rw [hy] at ry
  rw [hz] at rz
  clear hx hy hz
  have e1 : IntKind.u64.wrap (max a b + 1) = max a b + 1 := by rw [u64_wrap]; omega
  rw [e1] at rz
  clear e1
  have HE := show errT a b amt = 0 by unfold errT; rw [if_pos (by omega)]
  have HE2 := show errT b a amt = 0 by unfold errT; rw [if_pos (by omega)]
  have HEM := show errM [a, b] amt = 0 by
    unfold errM
    rw [if_pos (jugs_two ha hb), if_pos (by omega)]
  obtain ⟨N, hN⟩ : ∃ N : Nat, (if ok = true then ((min r1.length r2.length : Nat) : Int) else 0) = (N : Int) := by
    cases ok
    · exact ⟨0, rfl⟩
    · exact ⟨_, rfl⟩
  have hN2 : (if ok = true then ((min (r2.map swS).length (r1.map swS).length : Nat) : Int) else 0) = (N : Int) := by
    rw [List.length_map, List.length_map, Nat.min_comm]; exact hN
  have hNl : ok = true → N ≤ r1.length := fun h => by rw [if_pos h] at hN; omega
  rw [hN] at f5
  have C1 := Lib.hid (fun w => two_N a b amt HE r1 r2 ok f1 f2 N hN w)
  have C2 := Lib.hid (fun w : World => by
    have h := Fewest_ok [a, b] _ amt _ (sli_two w a b) (by simp) HEM (jugs_two ha hb) res f3
    rw [f5, f4] at h
    exact h)
  have C3 := Lib.hid (fun w => two_N b a amt HE2 _ _ ok (sw_of f2) (sw_of f1) N hN2 w)
  have C4 := Lib.hid (fun w => TwoWay_ok a b amt true HE 4005 (by omega) _ f1 w)
  have C5 := Lib.hid (fun w => TwoWay_ok b a amt false HE2 4005 (by omega) _ (sw_of f1) w)
  have F7 := Lib.hid f7
  clear f1 f2 f3 f4 f5 f7 HE HE2 HEM hN hN2
  dsimp only at C4 C5
  have hml : (r1.map swS).length = r1.length := List.length_map _
  have HMG := Lib.hid (show ∀ j (h : j < r1.length) (h' : j < (r1.map swS).length), (r1.map swS)[j] = swS r1[j] from fun j h h' => by simp)
  generalize r1.map swS = v1 at *
  have HML := Lib.hid hml
  clear hml
  have hcmp : decide ((r1.length : Int) < (N : Int)) = false ∨ ok = false := by
    cases ok
    · exact .inr rfl
    · exact .inl (decide_eq_false (by have := hNl rfl; omega))
  have HCMP := Lib.hid hcmp
  clear hcmp hNl
  subst hok
  have hm : max a b = b := by omega
  rw [hm] at rz h0
  clear hm
  go_enter Try.func12, Try.ntmps12
  go_wp2_with fail
  all_goals try (exfalso; omega)
  all_goals
    try simp only [rx, ry, rz]
    clear rx ry rz
    refine (C1.out w).mono ?_
    rintro e w1 ⟨rfl, hb1⟩
    have HB1 := Lib.hid hb1
    clear hb1
    go_wp2_with fail
    refine (C2.out w1).mono ?_
    rintro e w2 ⟨rfl, hb2⟩
    have HB2 := Lib.hid (Below.andThen (Below.al HB1.out (Nat.le_refl _) _) hb2 (Nat.le_refl _))
    clear hb2 HB1
    go_wp2_with fail
    refine (C3.out w2).mono ?_
    rintro e w3 ⟨rfl, hb3⟩
    have HB3 := Lib.hid (Below.andThen HB2.out hb3 (Nat.le_refl _))
    clear hb3 HB2
    go_wp2_with fail
    refine (C4.out w3).mono ?_
    rintro e w4 ⟨s, rfl, hs, hb4⟩
    obtain ⟨sa, sc, rfl, hsa⟩ := hs.open
    have HS4 := Lib.hid hsa
    have HB4 := Lib.hid (Below.andThen HB3.out hb4 (Nat.le_refl _))
    clear hb4 HB3 hs hsa
    go_wp2_with fail
    refine (C5.out w4).mono ?_
    rintro e w5 ⟨t, rfl, ht, hb5⟩
    obtain ⟨ta, tc, rfl, hta⟩ := ht.open
    rw [HML.out]
    have HS5 := Lib.hid (hsa_grow HS4.out hb5)
    have HT5 := Lib.hid hta
    have HB5 := Lib.hid (Below.andThen HB4.out hb5 (Nat.le_refl _))
    clear hb5 HB4 ht hta HS4
    have hn1 : ((N : Int) != (N : Int)) = false := by simp
    have hn2 : ((r1.length : Int) != (r1.length : Int)) = false := by simp
    have hc : decide ((r1.length : Int) < (N : Int)) = false := HCMP.out.resolve_right (by decide)
    have hcn : decide (r1.length < N) = false := by have := of_decide_eq_false hc; exact decide_eq_false (by omega)
    clear HCMP
    go_wp2_with fail
    go_loopw [22] (fun jv wx => ∃ j : Nat, j ≤ r1.length ∧ jv = .int .i64 (j : Int) ∧ Hid (Below w5.heap.size w5 wx)) (fun jv _ => (r1.length - intOf jv).toNat)
    case atStart => exact ⟨0, by omega, rfl, Lib.hid (Below.refl _ _)⟩
    case round =>
      obtain ⟨j, hj, rfl, HBX⟩ := hrel
      have kw : IntKind.i64.wrap ((j : Int) + 1) = ((j + 1 : Nat) : Int) := by rw [i64_of _ (by omega) (by omega)]; omega
      by_cases hjl : j < r1.length
      · have hd2 : decide ((j : Int) < (r1.length : Int)) = true := decide_eq_true (by omega)
        have hd2n : decide (j < r1.length) = true := decide_eq_true hjl
        obtain ⟨gs, rfl, hps⟩ : ∃ gs, sa = some ⟨gs, 0, none⟩ ∧ PtsAt w5 gs 0 r1 := by
          rcases HS5.out with ⟨_, _, h⟩ | ⟨g, _, h, h2, _⟩
          · rw [h] at hjl; exact absurd hjl (by simp)
          · exact ⟨g, h, h2⟩
        have hjv : j < v1.length := by rw [HML.out]; exact hjl
        obtain ⟨gt, rfl, hpt⟩ : ∃ gt, ta = some ⟨gt, 0, none⟩ ∧ PtsAt w5 gt 0 v1 := by
          rcases HT5.out with ⟨_, _, h⟩ | ⟨g, _, h, h2, _⟩
          · rw [h] at hjv; exact absurd hjv (by simp)
          · exact ⟨g, h, h2⟩
        have hmg := HMG.out j hjl hjv
        have hst : (r1[j].1 = -1 ∨ r1[j].1 = 0 ∨ r1[j].1 = 1) ∧ (r1[j].2 = -1 ∨ r1[j].2 = 0 ∨ r1[j].2 = 1) := F7.out _ (List.getElem_mem hjl)
        have hcs : ∀ W, Below w5.heap.size w5 W → W.cell? ⟨gs, j * 2, none⟩ = some (.int .i64 r1[j].1) ∧ W.cell? ⟨gs, j * 2 + 1, none⟩ = some (.int .i64 r1[j].2) := fun W hb => by
          have h := hps.grow hb
          exact ⟨by simpa using h.x j hjl, by simpa using h.y j hjl⟩
        have hct : ∀ W, Below w5.heap.size w5 W → W.cell? ⟨gt, j * 2, none⟩ = some (.int .i64 (swI r1[j].1)) ∧ W.cell? ⟨gt, j * 2 + 1, none⟩ = some (.int .i64 (swI r1[j].2)) := fun W hb => by
          have h := hpt.grow hb
          have h1 := h.x j hjv
          have h2 := h.y j hjv
          rw [hmg] at h1 h2
          have k1 : W.cell? ⟨gt, j * 2, none⟩ = some (.int .i64 (swS r1[j]).1) := by simpa using h1
          have k2 : W.cell? ⟨gt, j * 2 + 1, none⟩ = some (.int .i64 (swS r1[j]).2) := by simpa using h2
          exact ⟨k1, k2⟩
        generalize r1[j].1 = px at *
        generalize r1[j].2 = py at *
        have HPX := Lib.hid (swI_val hst.1)
        have HPY := Lib.hid (swI_val hst.2)
        have HCS := Lib.hid hcs
        have HCT := Lib.hid hct
        clear hcs hct hps hpt hmg hst
        go_wp2_with fail
        go_loopw [23] (fun pv wx => ∃ p : Nat, p ≤ 2 ∧ pv = .int .i64 (p : Int) ∧ Hid (Below w5.heap.size w5 wx)) (fun pv _ => (2 - intOf pv).toNat)
        case atStart => exact ⟨0, by omega, rfl, HBX⟩
        case round =>
          obtain ⟨p, hp, rfl, HBP⟩ := hrel
          rcases (show p = 0 ∨ p = 1 ∨ p = 2 by omega) with rfl | rfl | rfl
          · obtain ⟨c1, c2⟩ := HCS.out _ HBP.out
            obtain ⟨c3, c4⟩ := HCT.out _ HBP.out
            rcases HPX.out with ⟨h1, h2⟩ | ⟨h1, h2⟩ | ⟨h1, h2⟩
            all_goals
              rw [h1] at c1
              rw [h2] at c3
              clear h1 h2
              go_wp2_with fail
              go_quiet (fail)
              go_wp2_with fail
              go_roundw
              case rel => exact ⟨1, by omega, by simp, Lib.hid (below_drewN HBP.out _)⟩
              case measure => simp [intOf]
          · obtain ⟨c1, c2⟩ := HCS.out _ HBP.out
            obtain ⟨c3, c4⟩ := HCT.out _ HBP.out
            rcases HPY.out with ⟨h1, h2⟩ | ⟨h1, h2⟩ | ⟨h1, h2⟩
            all_goals
              rw [h1] at c2
              rw [h2] at c4
              clear h1 h2
              go_wp2_with fail
              go_quiet (fail)
              go_wp2_with fail
              go_roundw
              case rel => exact ⟨2, by omega, by simp, Lib.hid (below_drewN HBP.out _)⟩
              case measure => simp [intOf]
          · go_wp2_with fail
            go_roundw
            case rel => exact ⟨j + 1, by omega, by simp, HBP⟩
            case measure => simp [intOf]; omega
      · have hd2 : decide ((j : Int) < (r1.length : Int)) = false := decide_eq_false (by omega)
        have hd2n : decide (j < r1.length) = false := decide_eq_false hjl
        go_wp2_with fail
        refine (awake_any _).mono ?_
        rintro e w6 ⟨rfl, hb⟩
        have HE := Lib.hid (Below.andThen (Below.andThen HB5.out HBX.out (Nat.le_refl _)) hb (Nat.le_refl _))
        clear hb
        go_wp2_with fail
        go_ret
        exact ⟨rfl, HE.out⟩
set_option maxRecDepth 100000 in
set_option maxHeartbeats 8000000 in
theorem JugFewest_eq_false (x y z : Int) (a b amt : Int) (ha : 1 ≤ a ∧ a ≤ 12) (hb : 1 ≤ b ∧ b ≤ 12) (h0 : 0 ≤ amt ∧ amt ≤ max a b) (hx : tamA x = a) (hy : tamA y = b) (hz : filA z (max a b) = amt) (hab : a = b) (ok : Bool) (hok : ok = false) (r1 r2 : List (Int × Int)) (res : Sn × Option (List Int)) (f1 : ringL true a b amt 4005 0 0 [] = some (r1, ok)) (f2 : ringL false a b amt 4005 0 0 [] = some (r2, ok)) (f3 : srch (padF [a, b]) (glA 2 amt) (stepsL (-1) 3) 28562 [0, 0, 0, 0] = some res) (f4 : res.2.isSome = ok)
    (f5 : ((wayF res).length : Int) = (if ok = true then ((min r1.length r2.length : Nat) : Int) else 0)) (f7 : ∀ p ∈ r1, stpIn p) (f8 : r1.length ≤ 4004) (w : World) :
    Calls Try.prog 12 #[.int .i64 x, .int .i64 y, .int .i64 z] w fun e w' => e = .returned (.bool true) ∧ Below w.heap.size w w' := by
  have rx := tamA_raw x
  have ry := tamA_raw y
  have rz := filA_raw z (max a b) (by omega)
  rw [hx] at rx
  rw [hy] at ry
  rw [hz] at rz
  clear hx hy hz
  have e1 : IntKind.u64.wrap (max a b + 1) = max a b + 1 := by rw [u64_wrap]; omega
  rw [e1] at rz
  clear e1
  have HE := show errT a b amt = 0 by unfold errT; rw [if_pos (by omega)]
  have HE2 := show errT b a amt = 0 by unfold errT; rw [if_pos (by omega)]
  have HEM := show errM [a, b] amt = 0 by
    unfold errM
    rw [if_pos (jugs_two ha hb), if_pos (by omega)]
  obtain ⟨N, hN⟩ : ∃ N : Nat, (if ok = true then ((min r1.length r2.length : Nat) : Int) else 0) = (N : Int) := by
    cases ok
    · exact ⟨0, rfl⟩
    · exact ⟨_, rfl⟩
  have hN2 : (if ok = true then ((min (r2.map swS).length (r1.map swS).length : Nat) : Int) else 0) = (N : Int) := by
    rw [List.length_map, List.length_map, Nat.min_comm]; exact hN
  have hNl : ok = true → N ≤ r1.length := fun h => by rw [if_pos h] at hN; omega
  rw [hN] at f5
  have C1 := Lib.hid (fun w => two_N a b amt HE r1 r2 ok f1 f2 N hN w)
  have C2 := Lib.hid (fun w : World => by
    have h := Fewest_ok [a, b] _ amt _ (sli_two w a b) (by simp) HEM (jugs_two ha hb) res f3
    rw [f5, f4] at h
    exact h)
  have C3 := Lib.hid (fun w => two_N b a amt HE2 _ _ ok (sw_of f2) (sw_of f1) N hN2 w)
  have C4 := Lib.hid (fun w => TwoWay_ok a b amt true HE 4005 (by omega) _ f1 w)
  have C5 := Lib.hid (fun w => TwoWay_ok b a amt false HE2 4005 (by omega) _ (sw_of f1) w)
  have F7 := Lib.hid f7
  clear f1 f2 f3 f4 f5 f7 HE HE2 HEM hN hN2
  dsimp only at C4 C5
  have hml : (r1.map swS).length = r1.length := List.length_map _
  have HMG := Lib.hid (show ∀ j (h : j < r1.length) (h' : j < (r1.map swS).length), (r1.map swS)[j] = swS r1[j] from fun j h h' => by simp)
  generalize r1.map swS = v1 at *
  have HML := Lib.hid hml
  clear hml
  have hcmp : decide ((r1.length : Int) < (N : Int)) = false ∨ ok = false := by
    cases ok
    · exact .inr rfl
    · exact .inl (decide_eq_false (by have := hNl rfl; omega))
  have HCMP := Lib.hid hcmp
  clear hcmp hNl
  subst hok
  subst hab
  have hm : max a a = a := by omega
  rw [hm] at rz h0
  clear hm
  go_enter Try.func12, Try.ntmps12
  go_wp2_with fail
  all_goals try (exfalso; omega)
  all_goals
    try simp only [rx, ry, rz]
    clear rx ry rz
    refine (C1.out w).mono ?_
    rintro e w1 ⟨rfl, hb1⟩
    have HB1 := Lib.hid hb1
    clear hb1
    go_wp2_with fail
    refine (C2.out w1).mono ?_
    rintro e w2 ⟨rfl, hb2⟩
    have HB2 := Lib.hid (Below.andThen (Below.al HB1.out (Nat.le_refl _) _) hb2 (Nat.le_refl _))
    clear hb2 HB1
    go_wp2_with fail
    refine (C3.out w2).mono ?_
    rintro e w3 ⟨rfl, hb3⟩
    have HB3 := Lib.hid (Below.andThen HB2.out hb3 (Nat.le_refl _))
    clear hb3 HB2
    go_wp2_with fail
    refine (C4.out w3).mono ?_
    rintro e w4 ⟨s, rfl, hs, hb4⟩
    obtain ⟨sa, sc, rfl, hsa⟩ := hs.open
    have HS4 := Lib.hid hsa
    have HB4 := Lib.hid (Below.andThen HB3.out hb4 (Nat.le_refl _))
    clear hb4 HB3 hs hsa
    go_wp2_with fail
    refine (C5.out w4).mono ?_
    rintro e w5 ⟨t, rfl, ht, hb5⟩
    obtain ⟨ta, tc, rfl, hta⟩ := ht.open
    rw [HML.out]
    have HS5 := Lib.hid (hsa_grow HS4.out hb5)
    have HT5 := Lib.hid hta
    have HB5 := Lib.hid (Below.andThen HB4.out hb5 (Nat.le_refl _))
    clear hb5 HB4 ht hta HS4
    have hn1 : ((N : Int) != (N : Int)) = false := by simp
    have hn2 : ((r1.length : Int) != (r1.length : Int)) = false := by simp
    clear HCMP
    go_wp2_with fail
    go_loopw [22] (fun jv wx => ∃ j : Nat, j ≤ r1.length ∧ jv = .int .i64 (j : Int) ∧ Hid (Below w5.heap.size w5 wx)) (fun jv _ => (r1.length - intOf jv).toNat)
    case atStart => exact ⟨0, by omega, rfl, Lib.hid (Below.refl _ _)⟩
    case round =>
      obtain ⟨j, hj, rfl, HBX⟩ := hrel
      have kw : IntKind.i64.wrap ((j : Int) + 1) = ((j + 1 : Nat) : Int) := by rw [i64_of _ (by omega) (by omega)]; omega
      by_cases hjl : j < r1.length
      · have hd2 : decide ((j : Int) < (r1.length : Int)) = true := decide_eq_true (by omega)
        have hd2n : decide (j < r1.length) = true := decide_eq_true hjl
        obtain ⟨gs, rfl, hps⟩ : ∃ gs, sa = some ⟨gs, 0, none⟩ ∧ PtsAt w5 gs 0 r1 := by
          rcases HS5.out with ⟨_, _, h⟩ | ⟨g, _, h, h2, _⟩
          · rw [h] at hjl; exact absurd hjl (by simp)
          · exact ⟨g, h, h2⟩
        have hjv : j < v1.length := by rw [HML.out]; exact hjl
        obtain ⟨gt, rfl, hpt⟩ : ∃ gt, ta = some ⟨gt, 0, none⟩ ∧ PtsAt w5 gt 0 v1 := by
          rcases HT5.out with ⟨_, _, h⟩ | ⟨g, _, h, h2, _⟩
          · rw [h] at hjv; exact absurd hjv (by simp)
          · exact ⟨g, h, h2⟩
        have hmg := HMG.out j hjl hjv
        have hst : (r1[j].1 = -1 ∨ r1[j].1 = 0 ∨ r1[j].1 = 1) ∧ (r1[j].2 = -1 ∨ r1[j].2 = 0 ∨ r1[j].2 = 1) := F7.out _ (List.getElem_mem hjl)
        have hcs : ∀ W, Below w5.heap.size w5 W → W.cell? ⟨gs, j * 2, none⟩ = some (.int .i64 r1[j].1) ∧ W.cell? ⟨gs, j * 2 + 1, none⟩ = some (.int .i64 r1[j].2) := fun W hb => by
          have h := hps.grow hb
          exact ⟨by simpa using h.x j hjl, by simpa using h.y j hjl⟩
        have hct : ∀ W, Below w5.heap.size w5 W → W.cell? ⟨gt, j * 2, none⟩ = some (.int .i64 (swI r1[j].1)) ∧ W.cell? ⟨gt, j * 2 + 1, none⟩ = some (.int .i64 (swI r1[j].2)) := fun W hb => by
          have h := hpt.grow hb
          have h1 := h.x j hjv
          have h2 := h.y j hjv
          rw [hmg] at h1 h2
          have k1 : W.cell? ⟨gt, j * 2, none⟩ = some (.int .i64 (swS r1[j]).1) := by simpa using h1
          have k2 : W.cell? ⟨gt, j * 2 + 1, none⟩ = some (.int .i64 (swS r1[j]).2) := by simpa using h2
          exact ⟨k1, k2⟩
        generalize r1[j].1 = px at *
        generalize r1[j].2 = py at *
        have HPX := Lib.hid (swI_val hst.1)
        have HPY := Lib.hid (swI_val hst.2)
        have HCS := Lib.hid hcs
        have HCT := Lib.hid hct
        clear hcs hct hps hpt hmg hst
        go_wp2_with fail
        go_loopw [23] (fun pv wx => ∃ p : Nat, p ≤ 2 ∧ pv = .int .i64 (p : Int) ∧ Hid (Below w5.heap.size w5 wx)) (fun pv _ => (2 - intOf pv).toNat)
        case atStart => exact ⟨0, by omega, rfl, HBX⟩
        case round =>
          obtain ⟨p, hp, rfl, HBP⟩ := hrel
          rcases (show p = 0 ∨ p = 1 ∨ p = 2 by omega) with rfl | rfl | rfl
          · obtain ⟨c1, c2⟩ := HCS.out _ HBP.out
            obtain ⟨c3, c4⟩ := HCT.out _ HBP.out
            rcases HPX.out with ⟨h1, h2⟩ | ⟨h1, h2⟩ | ⟨h1, h2⟩
            all_goals
              rw [h1] at c1
              rw [h2] at c3
              clear h1 h2
              go_wp2_with fail
              go_quiet (fail)
              go_wp2_with fail
              go_roundw
              case rel => exact ⟨1, by omega, by simp, Lib.hid (below_drewN HBP.out _)⟩
              case measure => simp [intOf]
          · obtain ⟨c1, c2⟩ := HCS.out _ HBP.out
            obtain ⟨c3, c4⟩ := HCT.out _ HBP.out
            rcases HPY.out with ⟨h1, h2⟩ | ⟨h1, h2⟩ | ⟨h1, h2⟩
            all_goals
              rw [h1] at c2
              rw [h2] at c4
              clear h1 h2
              go_wp2_with fail
              go_quiet (fail)
              go_wp2_with fail
              go_roundw
              case rel => exact ⟨2, by omega, by simp, Lib.hid (below_drewN HBP.out _)⟩
              case measure => simp [intOf]
          · go_wp2_with fail
            go_roundw
            case rel => exact ⟨j + 1, by omega, by simp, HBP⟩
            case measure => simp [intOf]; omega
      · have hd2 : decide ((j : Int) < (r1.length : Int)) = false := decide_eq_false (by omega)
        have hd2n : decide (j < r1.length) = false := decide_eq_false hjl
        go_wp2_with fail
        refine (awake_any _).mono ?_
        rintro e w6 ⟨rfl, hb⟩
        have HE := Lib.hid (Below.andThen (Below.andThen HB5.out HBX.out (Nat.le_refl _)) hb (Nat.le_refl _))
        clear hb
        go_wp2_with fail
        go_ret
        exact ⟨rfl, HE.out⟩
set_option maxRecDepth 100000 in
set_option maxHeartbeats 8000000 in
theorem JugFewest_eq_true (x y z : Int) (a b amt : Int) (ha : 1 ≤ a ∧ a ≤ 12) (hb : 1 ≤ b ∧ b ≤ 12) (h0 : 0 ≤ amt ∧ amt ≤ max a b) (hx : tamA x = a) (hy : tamA y = b) (hz : filA z (max a b) = amt) (hab : a = b) (ok : Bool) (hok : ok = true) (r1 r2 : List (Int × Int)) (res : Sn × Option (List Int)) (f1 : ringL true a b amt 4005 0 0 [] = some (r1, ok)) (f2 : ringL false a b amt 4005 0 0 [] = some (r2, ok)) (f3 : srch (padF [a, b]) (glA 2 amt) (stepsL (-1) 3) 28562 [0, 0, 0, 0] = some res) (f4 : res.2.isSome = ok)
    (f5 : ((wayF res).length : Int) = (if ok = true then ((min r1.length r2.length : Nat) : Int) else 0)) (f7 : ∀ p ∈ r1, stpIn p) (f8 : r1.length ≤ 4004) (w : World) :
    Calls Try.prog 12 #[.int .i64 x, .int .i64 y, .int .i64 z] w fun e w' => e = .returned (.bool true) ∧ Below w.heap.size w w' := by
  have rx := tamA_raw x
  have ry := tamA_raw y
  have rz := filA_raw z (max a b) (by omega)
  rw [hx] at rx
  rw [hy] at ry
  rw [hz] at rz
  clear hx hy hz
  have e1 : IntKind.u64.wrap (max a b + 1) = max a b + 1 := by rw [u64_wrap]; omega
  rw [e1] at rz
  clear e1
  have HE := show errT a b amt = 0 by unfold errT; rw [if_pos (by omega)]
  have HE2 := show errT b a amt = 0 by unfold errT; rw [if_pos (by omega)]
  have HEM := show errM [a, b] amt = 0 by
    unfold errM
    rw [if_pos (jugs_two ha hb), if_pos (by omega)]
  obtain ⟨N, hN⟩ : ∃ N : Nat, (if ok = true then ((min r1.length r2.length : Nat) : Int) else 0) = (N : Int) := by
    cases ok
    · exact ⟨0, rfl⟩
    · exact ⟨_, rfl⟩
  have hN2 : (if ok = true then ((min (r2.map swS).length (r1.map swS).length : Nat) : Int) else 0) = (N : Int) := by
    rw [List.length_map, List.length_map, Nat.min_comm]; exact hN
  have hNl : ok = true → N ≤ r1.length := fun h => by rw [if_pos h] at hN; omega
  rw [hN] at f5
  have C1 := Lib.hid (fun w => two_N a b amt HE r1 r2 ok f1 f2 N hN w)
  have C2 := Lib.hid (fun w : World => by
    have h := Fewest_ok [a, b] _ amt _ (sli_two w a b) (by simp) HEM (jugs_two ha hb) res f3
    rw [f5, f4] at h
    exact h)
  have C3 := Lib.hid (fun w => two_N b a amt HE2 _ _ ok (sw_of f2) (sw_of f1) N hN2 w)
  have C4 := Lib.hid (fun w => TwoWay_ok a b amt true HE 4005 (by omega) _ f1 w)
  have C5 := Lib.hid (fun w => TwoWay_ok b a amt false HE2 4005 (by omega) _ (sw_of f1) w)
  have F7 := Lib.hid f7
  clear f1 f2 f3 f4 f5 f7 HE HE2 HEM hN hN2
  dsimp only at C4 C5
  have hml : (r1.map swS).length = r1.length := List.length_map _
  have HMG := Lib.hid (show ∀ j (h : j < r1.length) (h' : j < (r1.map swS).length), (r1.map swS)[j] = swS r1[j] from fun j h h' => by simp)
  generalize r1.map swS = v1 at *
  have HML := Lib.hid hml
  clear hml
  have hcmp : decide ((r1.length : Int) < (N : Int)) = false ∨ ok = false := by
    cases ok
    · exact .inr rfl
    · exact .inl (decide_eq_false (by have := hNl rfl; omega))
  have HCMP := Lib.hid hcmp
  clear hcmp hNl
  subst hok
  subst hab
  have hm : max a a = a := by omega
  rw [hm] at rz h0
  clear hm
  go_enter Try.func12, Try.ntmps12
  go_wp2_with fail
  all_goals try (exfalso; omega)
  all_goals
    try simp only [rx, ry, rz]
    clear rx ry rz
    refine (C1.out w).mono ?_
    rintro e w1 ⟨rfl, hb1⟩
    have HB1 := Lib.hid hb1
    clear hb1
    go_wp2_with fail
    refine (C2.out w1).mono ?_
    rintro e w2 ⟨rfl, hb2⟩
    have HB2 := Lib.hid (Below.andThen (Below.al HB1.out (Nat.le_refl _) _) hb2 (Nat.le_refl _))
    clear hb2 HB1
    go_wp2_with fail
    refine (C3.out w2).mono ?_
    rintro e w3 ⟨rfl, hb3⟩
    have HB3 := Lib.hid (Below.andThen HB2.out hb3 (Nat.le_refl _))
    clear hb3 HB2
    go_wp2_with fail
    refine (C4.out w3).mono ?_
    rintro e w4 ⟨s, rfl, hs, hb4⟩
    obtain ⟨sa, sc, rfl, hsa⟩ := hs.open
    have HS4 := Lib.hid hsa
    have HB4 := Lib.hid (Below.andThen HB3.out hb4 (Nat.le_refl _))
    clear hb4 HB3 hs hsa
    go_wp2_with fail
    refine (C5.out w4).mono ?_
    rintro e w5 ⟨t, rfl, ht, hb5⟩
    obtain ⟨ta, tc, rfl, hta⟩ := ht.open
    rw [HML.out]
    have HS5 := Lib.hid (hsa_grow HS4.out hb5)
    have HT5 := Lib.hid hta
    have HB5 := Lib.hid (Below.andThen HB4.out hb5 (Nat.le_refl _))
    clear hb5 HB4 ht hta HS4
    have hn1 : ((N : Int) != (N : Int)) = false := by simp
    have hn2 : ((r1.length : Int) != (r1.length : Int)) = false := by simp
    have hc : decide ((r1.length : Int) < (N : Int)) = false := HCMP.out.resolve_right (by decide)
    have hcn : decide (r1.length < N) = false := by have := of_decide_eq_false hc; exact decide_eq_false (by omega)
    clear HCMP
    go_wp2_with fail
    go_loopw [22] (fun jv wx => ∃ j : Nat, j ≤ r1.length ∧ jv = .int .i64 (j : Int) ∧ Hid (Below w5.heap.size w5 wx)) (fun jv _ => (r1.length - intOf jv).toNat)
    case atStart => exact ⟨0, by omega, rfl, Lib.hid (Below.refl _ _)⟩
    case round =>
      obtain ⟨j, hj, rfl, HBX⟩ := hrel
      have kw : IntKind.i64.wrap ((j : Int) + 1) = ((j + 1 : Nat) : Int) := by rw [i64_of _ (by omega) (by omega)]; omega
      by_cases hjl : j < r1.length
      · have hd2 : decide ((j : Int) < (r1.length : Int)) = true := decide_eq_true (by omega)
        have hd2n : decide (j < r1.length) = true := decide_eq_true hjl
        obtain ⟨gs, rfl, hps⟩ : ∃ gs, sa = some ⟨gs, 0, none⟩ ∧ PtsAt w5 gs 0 r1 := by
          rcases HS5.out with ⟨_, _, h⟩ | ⟨g, _, h, h2, _⟩
          · rw [h] at hjl; exact absurd hjl (by simp)
          · exact ⟨g, h, h2⟩
        have hjv : j < v1.length := by rw [HML.out]; exact hjl
        obtain ⟨gt, rfl, hpt⟩ : ∃ gt, ta = some ⟨gt, 0, none⟩ ∧ PtsAt w5 gt 0 v1 := by
          rcases HT5.out with ⟨_, _, h⟩ | ⟨g, _, h, h2, _⟩
          · rw [h] at hjv; exact absurd hjv (by simp)
          · exact ⟨g, h, h2⟩
        have hmg := HMG.out j hjl hjv
        have hst : (r1[j].1 = -1 ∨ r1[j].1 = 0 ∨ r1[j].1 = 1) ∧ (r1[j].2 = -1 ∨ r1[j].2 = 0 ∨ r1[j].2 = 1) := F7.out _ (List.getElem_mem hjl)
        have hcs : ∀ W, Below w5.heap.size w5 W → W.cell? ⟨gs, j * 2, none⟩ = some (.int .i64 r1[j].1) ∧ W.cell? ⟨gs, j * 2 + 1, none⟩ = some (.int .i64 r1[j].2) := fun W hb => by
          have h := hps.grow hb
          exact ⟨by simpa using h.x j hjl, by simpa using h.y j hjl⟩
        have hct : ∀ W, Below w5.heap.size w5 W → W.cell? ⟨gt, j * 2, none⟩ = some (.int .i64 (swI r1[j].1)) ∧ W.cell? ⟨gt, j * 2 + 1, none⟩ = some (.int .i64 (swI r1[j].2)) := fun W hb => by
          have h := hpt.grow hb
          have h1 := h.x j hjv
          have h2 := h.y j hjv
          rw [hmg] at h1 h2
          have k1 : W.cell? ⟨gt, j * 2, none⟩ = some (.int .i64 (swS r1[j]).1) := by simpa using h1
          have k2 : W.cell? ⟨gt, j * 2 + 1, none⟩ = some (.int .i64 (swS r1[j]).2) := by simpa using h2
          exact ⟨k1, k2⟩
        generalize r1[j].1 = px at *
        generalize r1[j].2 = py at *
        have HPX := Lib.hid (swI_val hst.1)
        have HPY := Lib.hid (swI_val hst.2)
        have HCS := Lib.hid hcs
        have HCT := Lib.hid hct
        clear hcs hct hps hpt hmg hst
        go_wp2_with fail
        go_loopw [23] (fun pv wx => ∃ p : Nat, p ≤ 2 ∧ pv = .int .i64 (p : Int) ∧ Hid (Below w5.heap.size w5 wx)) (fun pv _ => (2 - intOf pv).toNat)
        case atStart => exact ⟨0, by omega, rfl, HBX⟩
        case round =>
          obtain ⟨p, hp, rfl, HBP⟩ := hrel
          rcases (show p = 0 ∨ p = 1 ∨ p = 2 by omega) with rfl | rfl | rfl
          · obtain ⟨c1, c2⟩ := HCS.out _ HBP.out
            obtain ⟨c3, c4⟩ := HCT.out _ HBP.out
            rcases HPX.out with ⟨h1, h2⟩ | ⟨h1, h2⟩ | ⟨h1, h2⟩
            all_goals
              rw [h1] at c1
              rw [h2] at c3
              clear h1 h2
              go_wp2_with fail
              go_quiet (fail)
              go_wp2_with fail
              go_roundw
              case rel => exact ⟨1, by omega, by simp, Lib.hid (below_drewN HBP.out _)⟩
              case measure => simp [intOf]
          · obtain ⟨c1, c2⟩ := HCS.out _ HBP.out
            obtain ⟨c3, c4⟩ := HCT.out _ HBP.out
            rcases HPY.out with ⟨h1, h2⟩ | ⟨h1, h2⟩ | ⟨h1, h2⟩
            all_goals
              rw [h1] at c2
              rw [h2] at c4
              clear h1 h2
              go_wp2_with fail
              go_quiet (fail)
              go_wp2_with fail
              go_roundw
              case rel => exact ⟨2, by omega, by simp, Lib.hid (below_drewN HBP.out _)⟩
              case measure => simp [intOf]
          · go_wp2_with fail
            go_roundw
            case rel => exact ⟨j + 1, by omega, by simp, HBP⟩
            case measure => simp [intOf]; omega
      · have hd2 : decide ((j : Int) < (r1.length : Int)) = false := decide_eq_false (by omega)
        have hd2n : decide (j < r1.length) = false := decide_eq_false hjl
        go_wp2_with fail
        refine (awake_any _).mono ?_
        rintro e w6 ⟨rfl, hb⟩
        have HE := Lib.hid (Below.andThen (Below.andThen HB5.out HBX.out (Nat.le_refl _)) hb (Nat.le_refl _))
        clear hb
        go_wp2_with fail
        go_ret
        exact ⟨rfl, HE.out⟩
set_option maxRecDepth 100000 in
set_option maxHeartbeats 8000000 in
theorem JugFewest_gt_false (x y z : Int) (a b amt : Int) (ha : 1 ≤ a ∧ a ≤ 12) (hb : 1 ≤ b ∧ b ≤ 12) (h0 : 0 ≤ amt ∧ amt ≤ max a b) (hx : tamA x = a) (hy : tamA y = b) (hz : filA z (max a b) = amt) (hab : b < a) (ok : Bool) (hok : ok = false) (r1 r2 : List (Int × Int)) (res : Sn × Option (List Int)) (f1 : ringL true a b amt 4005 0 0 [] = some (r1, ok)) (f2 : ringL false a b amt 4005 0 0 [] = some (r2, ok)) (f3 : srch (padF [a, b]) (glA 2 amt) (stepsL (-1) 3) 28562 [0, 0, 0, 0] = some res) (f4 : res.2.isSome = ok)
    (f5 : ((wayF res).length : Int) = (if ok = true then ((min r1.length r2.length : Nat) : Int) else 0)) (f7 : ∀ p ∈ r1, stpIn p) (f8 : r1.length ≤ 4004) (w : World) :
    Calls Try.prog 12 #[.int .i64 x, .int .i64 y, .int .i64 z] w fun e w' => e = .returned (.bool true) ∧ Below w.heap.size w w' := by
  have rx := tamA_raw x
  have ry := tamA_raw y
  have rz := filA_raw z (max a b) (by omega)
  rw [hx] at rx
  rw [hy] at ry
  rw [hz] at rz
  clear hx hy hz
  have e1 : IntKind.u64.wrap (max a b + 1) = max a b + 1 := by rw [u64_wrap]; omega
  rw [e1] at rz
  clear e1
  have HE := show errT a b amt = 0 by unfold errT; rw [if_pos (by omega)]
  have HE2 := show errT b a amt = 0 by unfold errT; rw [if_pos (by omega)]
  have HEM := show errM [a, b] amt = 0 by
    unfold errM
    rw [if_pos (jugs_two ha hb), if_pos (by omega)]
  obtain ⟨N, hN⟩ : ∃ N : Nat, (if ok = true then ((min r1.length r2.length : Nat) : Int) else 0) = (N : Int) := by
    cases ok
    · exact ⟨0, rfl⟩
    · exact ⟨_, rfl⟩
  have hN2 : (if ok = true then ((min (r2.map swS).length (r1.map swS).length : Nat) : Int) else 0) = (N : Int) := by
    rw [List.length_map, List.length_map, Nat.min_comm]; exact hN
  have hNl : ok = true → N ≤ r1.length := fun h => by rw [if_pos h] at hN; omega
  rw [hN] at f5
  have C1 := Lib.hid (fun w => two_N a b amt HE r1 r2 ok f1 f2 N hN w)
  have C2 := Lib.hid (fun w : World => by
    have h := Fewest_ok [a, b] _ amt _ (sli_two w a b) (by simp) HEM (jugs_two ha hb) res f3
    rw [f5, f4] at h
    exact h)
  have C3 := Lib.hid (fun w => two_N b a amt HE2 _ _ ok (sw_of f2) (sw_of f1) N hN2 w)
  have C4 := Lib.hid (fun w => TwoWay_ok a b amt true HE 4005 (by omega) _ f1 w)
  have C5 := Lib.hid (fun w => TwoWay_ok b a amt false HE2 4005 (by omega) _ (sw_of f1) w)
  have F7 := Lib.hid f7
  clear f1 f2 f3 f4 f5 f7 HE HE2 HEM hN hN2
  dsimp only at C4 C5
  have hml : (r1.map swS).length = r1.length := List.length_map _
  have HMG := Lib.hid (show ∀ j (h : j < r1.length) (h' : j < (r1.map swS).length), (r1.map swS)[j] = swS r1[j] from fun j h h' => by simp)
  generalize r1.map swS = v1 at *
  have HML := Lib.hid hml
  clear hml
  have hcmp : decide ((r1.length : Int) < (N : Int)) = false ∨ ok = false := by
    cases ok
    · exact .inr rfl
    · exact .inl (decide_eq_false (by have := hNl rfl; omega))
  have HCMP := Lib.hid hcmp
  clear hcmp hNl
  subst hok
  have hm : max a b = a := by omega
  rw [hm] at rz h0
  clear hm
  go_enter Try.func12, Try.ntmps12
  go_wp2_with fail
  all_goals try (exfalso; omega)
  all_goals
    try simp only [rx, ry, rz]
    clear rx ry rz
    refine (C1.out w).mono ?_
    rintro e w1 ⟨rfl, hb1⟩
    have HB1 := Lib.hid hb1
    clear hb1
    go_wp2_with fail
    refine (C2.out w1).mono ?_
    rintro e w2 ⟨rfl, hb2⟩
    have HB2 := Lib.hid (Below.andThen (Below.al HB1.out (Nat.le_refl _) _) hb2 (Nat.le_refl _))
    clear hb2 HB1
    go_wp2_with fail
    refine (C3.out w2).mono ?_
    rintro e w3 ⟨rfl, hb3⟩
    have HB3 := Lib.hid (Below.andThen HB2.out hb3 (Nat.le_refl _))
    clear hb3 HB2
    go_wp2_with fail
    refine (C4.out w3).mono ?_
    rintro e w4 ⟨s, rfl, hs, hb4⟩
    obtain ⟨sa, sc, rfl, hsa⟩ := hs.open
    have HS4 := Lib.hid hsa
    have HB4 := Lib.hid (Below.andThen HB3.out hb4 (Nat.le_refl _))
    clear hb4 HB3 hs hsa
    go_wp2_with fail
    refine (C5.out w4).mono ?_
    rintro e w5 ⟨t, rfl, ht, hb5⟩
    obtain ⟨ta, tc, rfl, hta⟩ := ht.open
    rw [HML.out]
    have HS5 := Lib.hid (hsa_grow HS4.out hb5)
    have HT5 := Lib.hid hta
    have HB5 := Lib.hid (Below.andThen HB4.out hb5 (Nat.le_refl _))
    clear hb5 HB4 ht hta HS4
    have hn1 : ((N : Int) != (N : Int)) = false := by simp
    have hn2 : ((r1.length : Int) != (r1.length : Int)) = false := by simp
    clear HCMP
    go_wp2_with fail
    go_loopw [22] (fun jv wx => ∃ j : Nat, j ≤ r1.length ∧ jv = .int .i64 (j : Int) ∧ Hid (Below w5.heap.size w5 wx)) (fun jv _ => (r1.length - intOf jv).toNat)
    case atStart => exact ⟨0, by omega, rfl, Lib.hid (Below.refl _ _)⟩
    case round =>
      obtain ⟨j, hj, rfl, HBX⟩ := hrel
      have kw : IntKind.i64.wrap ((j : Int) + 1) = ((j + 1 : Nat) : Int) := by rw [i64_of _ (by omega) (by omega)]; omega
      by_cases hjl : j < r1.length
      · have hd2 : decide ((j : Int) < (r1.length : Int)) = true := decide_eq_true (by omega)
        have hd2n : decide (j < r1.length) = true := decide_eq_true hjl
        obtain ⟨gs, rfl, hps⟩ : ∃ gs, sa = some ⟨gs, 0, none⟩ ∧ PtsAt w5 gs 0 r1 := by
          rcases HS5.out with ⟨_, _, h⟩ | ⟨g, _, h, h2, _⟩
          · rw [h] at hjl; exact absurd hjl (by simp)
          · exact ⟨g, h, h2⟩
        have hjv : j < v1.length := by rw [HML.out]; exact hjl
        obtain ⟨gt, rfl, hpt⟩ : ∃ gt, ta = some ⟨gt, 0, none⟩ ∧ PtsAt w5 gt 0 v1 := by
          rcases HT5.out with ⟨_, _, h⟩ | ⟨g, _, h, h2, _⟩
          · rw [h] at hjv; exact absurd hjv (by simp)
          · exact ⟨g, h, h2⟩
        have hmg := HMG.out j hjl hjv
        have hst : (r1[j].1 = -1 ∨ r1[j].1 = 0 ∨ r1[j].1 = 1) ∧ (r1[j].2 = -1 ∨ r1[j].2 = 0 ∨ r1[j].2 = 1) := F7.out _ (List.getElem_mem hjl)
        have hcs : ∀ W, Below w5.heap.size w5 W → W.cell? ⟨gs, j * 2, none⟩ = some (.int .i64 r1[j].1) ∧ W.cell? ⟨gs, j * 2 + 1, none⟩ = some (.int .i64 r1[j].2) := fun W hb => by
          have h := hps.grow hb
          exact ⟨by simpa using h.x j hjl, by simpa using h.y j hjl⟩
        have hct : ∀ W, Below w5.heap.size w5 W → W.cell? ⟨gt, j * 2, none⟩ = some (.int .i64 (swI r1[j].1)) ∧ W.cell? ⟨gt, j * 2 + 1, none⟩ = some (.int .i64 (swI r1[j].2)) := fun W hb => by
          have h := hpt.grow hb
          have h1 := h.x j hjv
          have h2 := h.y j hjv
          rw [hmg] at h1 h2
          have k1 : W.cell? ⟨gt, j * 2, none⟩ = some (.int .i64 (swS r1[j]).1) := by simpa using h1
          have k2 : W.cell? ⟨gt, j * 2 + 1, none⟩ = some (.int .i64 (swS r1[j]).2) := by simpa using h2
          exact ⟨k1, k2⟩
        generalize r1[j].1 = px at *
        generalize r1[j].2 = py at *
        have HPX := Lib.hid (swI_val hst.1)
        have HPY := Lib.hid (swI_val hst.2)
        have HCS := Lib.hid hcs
        have HCT := Lib.hid hct
        clear hcs hct hps hpt hmg hst
        go_wp2_with fail
        go_loopw [23] (fun pv wx => ∃ p : Nat, p ≤ 2 ∧ pv = .int .i64 (p : Int) ∧ Hid (Below w5.heap.size w5 wx)) (fun pv _ => (2 - intOf pv).toNat)
        case atStart => exact ⟨0, by omega, rfl, HBX⟩
        case round =>
          obtain ⟨p, hp, rfl, HBP⟩ := hrel
          rcases (show p = 0 ∨ p = 1 ∨ p = 2 by omega) with rfl | rfl | rfl
          · obtain ⟨c1, c2⟩ := HCS.out _ HBP.out
            obtain ⟨c3, c4⟩ := HCT.out _ HBP.out
            rcases HPX.out with ⟨h1, h2⟩ | ⟨h1, h2⟩ | ⟨h1, h2⟩
            all_goals
              rw [h1] at c1
              rw [h2] at c3
              clear h1 h2
              go_wp2_with fail
              go_quiet (fail)
              go_wp2_with fail
              go_roundw
              case rel => exact ⟨1, by omega, by simp, Lib.hid (below_drewN HBP.out _)⟩
              case measure => simp [intOf]
          · obtain ⟨c1, c2⟩ := HCS.out _ HBP.out
            obtain ⟨c3, c4⟩ := HCT.out _ HBP.out
            rcases HPY.out with ⟨h1, h2⟩ | ⟨h1, h2⟩ | ⟨h1, h2⟩
            all_goals
              rw [h1] at c2
              rw [h2] at c4
              clear h1 h2
              go_wp2_with fail
              go_quiet (fail)
              go_wp2_with fail
              go_roundw
              case rel => exact ⟨2, by omega, by simp, Lib.hid (below_drewN HBP.out _)⟩
              case measure => simp [intOf]
          · go_wp2_with fail
            go_roundw
            case rel => exact ⟨j + 1, by omega, by simp, HBP⟩
            case measure => simp [intOf]; omega
      · have hd2 : decide ((j : Int) < (r1.length : Int)) = false := decide_eq_false (by omega)
        have hd2n : decide (j < r1.length) = false := decide_eq_false hjl
        go_wp2_with fail
        refine (awake_any _).mono ?_
        rintro e w6 ⟨rfl, hb⟩
        have HE := Lib.hid (Below.andThen (Below.andThen HB5.out HBX.out (Nat.le_refl _)) hb (Nat.le_refl _))
        clear hb
        go_wp2_with fail
        go_ret
        exact ⟨rfl, HE.out⟩
set_option maxRecDepth 100000 in
set_option maxHeartbeats 8000000 in
theorem JugFewest_gt_true (x y z : Int) (a b amt : Int) (ha : 1 ≤ a ∧ a ≤ 12) (hb : 1 ≤ b ∧ b ≤ 12) (h0 : 0 ≤ amt ∧ amt ≤ max a b) (hx : tamA x = a) (hy : tamA y = b) (hz : filA z (max a b) = amt) (hab : b < a) (ok : Bool) (hok : ok = true) (r1 r2 : List (Int × Int)) (res : Sn × Option (List Int)) (f1 : ringL true a b amt 4005 0 0 [] = some (r1, ok)) (f2 : ringL false a b amt 4005 0 0 [] = some (r2, ok)) (f3 : srch (padF [a, b]) (glA 2 amt) (stepsL (-1) 3) 28562 [0, 0, 0, 0] = some res) (f4 : res.2.isSome = ok)
    (f5 : ((wayF res).length : Int) = (if ok = true then ((min r1.length r2.length : Nat) : Int) else 0)) (f7 : ∀ p ∈ r1, stpIn p) (f8 : r1.length ≤ 4004) (w : World) :
    Calls Try.prog 12 #[.int .i64 x, .int .i64 y, .int .i64 z] w fun e w' => e = .returned (.bool true) ∧ Below w.heap.size w w' := by
  have rx := tamA_raw x
  have ry := tamA_raw y
  have rz := filA_raw z (max a b) (by omega)
  rw [hx] at rx
  rw [hy] at ry
  rw [hz] at rz
  clear hx hy hz
  have e1 : IntKind.u64.wrap (max a b + 1) = max a b + 1 := by rw [u64_wrap]; omega
  rw [e1] at rz
  clear e1
  have HE := show errT a b amt = 0 by unfold errT; rw [if_pos (by omega)]
  have HE2 := show errT b a amt = 0 by unfold errT; rw [if_pos (by omega)]
  have HEM := show errM [a, b] amt = 0 by
    unfold errM
    rw [if_pos (jugs_two ha hb), if_pos (by omega)]
  obtain ⟨N, hN⟩ : ∃ N : Nat, (if ok = true then ((min r1.length r2.length : Nat) : Int) else 0) = (N : Int) := by
    cases ok
    · exact ⟨0, rfl⟩
    · exact ⟨_, rfl⟩
  have hN2 : (if ok = true then ((min (r2.map swS).length (r1.map swS).length : Nat) : Int) else 0) = (N : Int) := by
    rw [List.length_map, List.length_map, Nat.min_comm]; exact hN
  have hNl : ok = true → N ≤ r1.length := fun h => by rw [if_pos h] at hN; omega
  rw [hN] at f5
  have C1 := Lib.hid (fun w => two_N a b amt HE r1 r2 ok f1 f2 N hN w)
  have C2 := Lib.hid (fun w : World => by
    have h := Fewest_ok [a, b] _ amt _ (sli_two w a b) (by simp) HEM (jugs_two ha hb) res f3
    rw [f5, f4] at h
    exact h)
  have C3 := Lib.hid (fun w => two_N b a amt HE2 _ _ ok (sw_of f2) (sw_of f1) N hN2 w)
  have C4 := Lib.hid (fun w => TwoWay_ok a b amt true HE 4005 (by omega) _ f1 w)
  have C5 := Lib.hid (fun w => TwoWay_ok b a amt false HE2 4005 (by omega) _ (sw_of f1) w)
  have F7 := Lib.hid f7
  clear f1 f2 f3 f4 f5 f7 HE HE2 HEM hN hN2
  dsimp only at C4 C5
  have hml : (r1.map swS).length = r1.length := List.length_map _
  have HMG := Lib.hid (show ∀ j (h : j < r1.length) (h' : j < (r1.map swS).length), (r1.map swS)[j] = swS r1[j] from fun j h h' => by simp)
  generalize r1.map swS = v1 at *
  have HML := Lib.hid hml
  clear hml
  have hcmp : decide ((r1.length : Int) < (N : Int)) = false ∨ ok = false := by
    cases ok
    · exact .inr rfl
    · exact .inl (decide_eq_false (by have := hNl rfl; omega))
  have HCMP := Lib.hid hcmp
  clear hcmp hNl
  subst hok
  have hm : max a b = a := by omega
  rw [hm] at rz h0
  clear hm
  go_enter Try.func12, Try.ntmps12
  go_wp2_with fail
  all_goals try (exfalso; omega)
  all_goals
    try simp only [rx, ry, rz]
    clear rx ry rz
    refine (C1.out w).mono ?_
    rintro e w1 ⟨rfl, hb1⟩
    have HB1 := Lib.hid hb1
    clear hb1
    go_wp2_with fail
    refine (C2.out w1).mono ?_
    rintro e w2 ⟨rfl, hb2⟩
    have HB2 := Lib.hid (Below.andThen (Below.al HB1.out (Nat.le_refl _) _) hb2 (Nat.le_refl _))
    clear hb2 HB1
    go_wp2_with fail
    refine (C3.out w2).mono ?_
    rintro e w3 ⟨rfl, hb3⟩
    have HB3 := Lib.hid (Below.andThen HB2.out hb3 (Nat.le_refl _))
    clear hb3 HB2
    go_wp2_with fail
    refine (C4.out w3).mono ?_
    rintro e w4 ⟨s, rfl, hs, hb4⟩
    obtain ⟨sa, sc, rfl, hsa⟩ := hs.open
    have HS4 := Lib.hid hsa
    have HB4 := Lib.hid (Below.andThen HB3.out hb4 (Nat.le_refl _))
    clear hb4 HB3 hs hsa
    go_wp2_with fail
    refine (C5.out w4).mono ?_
    rintro e w5 ⟨t, rfl, ht, hb5⟩
    obtain ⟨ta, tc, rfl, hta⟩ := ht.open
    rw [HML.out]
    have HS5 := Lib.hid (hsa_grow HS4.out hb5)
    have HT5 := Lib.hid hta
    have HB5 := Lib.hid (Below.andThen HB4.out hb5 (Nat.le_refl _))
    clear hb5 HB4 ht hta HS4
    have hn1 : ((N : Int) != (N : Int)) = false := by simp
    have hn2 : ((r1.length : Int) != (r1.length : Int)) = false := by simp
    have hc : decide ((r1.length : Int) < (N : Int)) = false := HCMP.out.resolve_right (by decide)
    have hcn : decide (r1.length < N) = false := by have := of_decide_eq_false hc; exact decide_eq_false (by omega)
    clear HCMP
    go_wp2_with fail
    go_loopw [22] (fun jv wx => ∃ j : Nat, j ≤ r1.length ∧ jv = .int .i64 (j : Int) ∧ Hid (Below w5.heap.size w5 wx)) (fun jv _ => (r1.length - intOf jv).toNat)
    case atStart => exact ⟨0, by omega, rfl, Lib.hid (Below.refl _ _)⟩
    case round =>
      obtain ⟨j, hj, rfl, HBX⟩ := hrel
      have kw : IntKind.i64.wrap ((j : Int) + 1) = ((j + 1 : Nat) : Int) := by rw [i64_of _ (by omega) (by omega)]; omega
      by_cases hjl : j < r1.length
      · have hd2 : decide ((j : Int) < (r1.length : Int)) = true := decide_eq_true (by omega)
        have hd2n : decide (j < r1.length) = true := decide_eq_true hjl
        obtain ⟨gs, rfl, hps⟩ : ∃ gs, sa = some ⟨gs, 0, none⟩ ∧ PtsAt w5 gs 0 r1 := by
          rcases HS5.out with ⟨_, _, h⟩ | ⟨g, _, h, h2, _⟩
          · rw [h] at hjl; exact absurd hjl (by simp)
          · exact ⟨g, h, h2⟩
        have hjv : j < v1.length := by rw [HML.out]; exact hjl
        obtain ⟨gt, rfl, hpt⟩ : ∃ gt, ta = some ⟨gt, 0, none⟩ ∧ PtsAt w5 gt 0 v1 := by
          rcases HT5.out with ⟨_, _, h⟩ | ⟨g, _, h, h2, _⟩
          · rw [h] at hjv; exact absurd hjv (by simp)
          · exact ⟨g, h, h2⟩
        have hmg := HMG.out j hjl hjv
        have hst : (r1[j].1 = -1 ∨ r1[j].1 = 0 ∨ r1[j].1 = 1) ∧ (r1[j].2 = -1 ∨ r1[j].2 = 0 ∨ r1[j].2 = 1) := F7.out _ (List.getElem_mem hjl)
        have hcs : ∀ W, Below w5.heap.size w5 W → W.cell? ⟨gs, j * 2, none⟩ = some (.int .i64 r1[j].1) ∧ W.cell? ⟨gs, j * 2 + 1, none⟩ = some (.int .i64 r1[j].2) := fun W hb => by
          have h := hps.grow hb
          exact ⟨by simpa using h.x j hjl, by simpa using h.y j hjl⟩
        have hct : ∀ W, Below w5.heap.size w5 W → W.cell? ⟨gt, j * 2, none⟩ = some (.int .i64 (swI r1[j].1)) ∧ W.cell? ⟨gt, j * 2 + 1, none⟩ = some (.int .i64 (swI r1[j].2)) := fun W hb => by
          have h := hpt.grow hb
          have h1 := h.x j hjv
          have h2 := h.y j hjv
          rw [hmg] at h1 h2
          have k1 : W.cell? ⟨gt, j * 2, none⟩ = some (.int .i64 (swS r1[j]).1) := by simpa using h1
          have k2 : W.cell? ⟨gt, j * 2 + 1, none⟩ = some (.int .i64 (swS r1[j]).2) := by simpa using h2
          exact ⟨k1, k2⟩
        generalize r1[j].1 = px at *
        generalize r1[j].2 = py at *
        have HPX := Lib.hid (swI_val hst.1)
        have HPY := Lib.hid (swI_val hst.2)
        have HCS := Lib.hid hcs
        have HCT := Lib.hid hct
        clear hcs hct hps hpt hmg hst
        go_wp2_with fail
        go_loopw [23] (fun pv wx => ∃ p : Nat, p ≤ 2 ∧ pv = .int .i64 (p : Int) ∧ Hid (Below w5.heap.size w5 wx)) (fun pv _ => (2 - intOf pv).toNat)
        case atStart => exact ⟨0, by omega, rfl, HBX⟩
        case round =>
          obtain ⟨p, hp, rfl, HBP⟩ := hrel
          rcases (show p = 0 ∨ p = 1 ∨ p = 2 by omega) with rfl | rfl | rfl
          · obtain ⟨c1, c2⟩ := HCS.out _ HBP.out
            obtain ⟨c3, c4⟩ := HCT.out _ HBP.out
            rcases HPX.out with ⟨h1, h2⟩ | ⟨h1, h2⟩ | ⟨h1, h2⟩
            all_goals
              rw [h1] at c1
              rw [h2] at c3
              clear h1 h2
              go_wp2_with fail
              go_quiet (fail)
              go_wp2_with fail
              go_roundw
              case rel => exact ⟨1, by omega, by simp, Lib.hid (below_drewN HBP.out _)⟩
              case measure => simp [intOf]
          · obtain ⟨c1, c2⟩ := HCS.out _ HBP.out
            obtain ⟨c3, c4⟩ := HCT.out _ HBP.out
            rcases HPY.out with ⟨h1, h2⟩ | ⟨h1, h2⟩ | ⟨h1, h2⟩
            all_goals
              rw [h1] at c2
              rw [h2] at c4
              clear h1 h2
              go_wp2_with fail
              go_quiet (fail)
              go_wp2_with fail
              go_roundw
              case rel => exact ⟨2, by omega, by simp, Lib.hid (below_drewN HBP.out _)⟩
              case measure => simp [intOf]
          · go_wp2_with fail
            go_roundw
            case rel => exact ⟨j + 1, by omega, by simp, HBP⟩
            case measure => simp [intOf]; omega
      · have hd2 : decide ((j : Int) < (r1.length : Int)) = false := decide_eq_false (by omega)
        have hd2n : decide (j < r1.length) = false := decide_eq_false hjl
        go_wp2_with fail
        refine (awake_any _).mono ?_
        rintro e w6 ⟨rfl, hb⟩
        have HE := Lib.hid (Below.andThen (Below.andThen HB5.out HBX.out (Nat.le_refl _)) hb (Nat.le_refl _))
        clear hb
        go_wp2_with fail
        go_ret
        exact ⟨rfl, HE.out⟩
theorem JugFewest_rest (x y z : Int) (a b amt : Int) (ha : 1 ≤ a ∧ a ≤ 12) (hb : 1 ≤ b ∧ b ≤ 12) (h0 : 0 ≤ amt ∧ amt ≤ max a b) (hx : tamA x = a) (hy : tamA y = b) (hz : filA z (max a b) = amt) (w : World) :
    Calls Try.prog 12 #[.int .i64 x, .int .i64 y, .int .i64 z] w fun e w' => e = .returned (.bool true) ∧ Below w.heap.size w w' := by
  obtain ⟨ok, r1, r2, res, f1, f2, f3, f4, f5, _, f7, f8, _⟩ := few_facts ha hb h0
  rcases Int.lt_trichotomy a b with hab | hab | hab
  · cases hok : ok
    · exact JugFewest_lt_false x y z a b amt ha hb h0 hx hy hz hab ok hok r1 r2 res f1 f2 f3 f4 f5 f7 f8 w
    · exact JugFewest_lt_true x y z a b amt ha hb h0 hx hy hz hab ok hok r1 r2 res f1 f2 f3 f4 f5 f7 f8 w
  · cases hok : ok
    · exact JugFewest_eq_false x y z a b amt ha hb h0 hx hy hz hab ok hok r1 r2 res f1 f2 f3 f4 f5 f7 f8 w
    · exact JugFewest_eq_true x y z a b amt ha hb h0 hx hy hz hab ok hok r1 r2 res f1 f2 f3 f4 f5 f7 f8 w
  · cases hok : ok
    · exact JugFewest_gt_false x y z a b amt ha hb h0 hx hy hz hab ok hok r1 r2 res f1 f2 f3 f4 f5 f7 f8 w
    · exact JugFewest_gt_true x y z a b amt ha hb h0 hx hy hz hab ok hok r1 r2 res f1 f2 f3 f4 f5 f7 f8 w
theorem filA_bd (x s : Int) (hs : 1 ≤ s) : 0 ≤ filA x s ∧ filA x s ≤ s := by
  unfold filA
  have h1 := Int.emod_nonneg (x % 18446744073709551616) (show s + 1 ≠ 0 by omega)
  have h2 := Int.emod_lt_of_pos (x % 18446744073709551616) (show (0 : Int) < s + 1 by omega)
  omega
theorem JugFewest_any (x y z : Int) (w : World) (_ : InI x) (_ : InI y) (_ : InI z) :
    Calls Try.prog 12 #[.int .i64 x, .int .i64 y, .int .i64 z] w fun e w' => e = .returned (.bool true) ∧ Below w.heap.size w w' := by
  have h1 := tamA_bd x
  have h2 := tamA_bd y
  exact JugFewest_rest x y z _ _ _ h1 h2 (filA_bd z _ (by omega)) rfl rfl rfl w
end Go.Proofs.Ytlamppplnojpbaa
