import Derived.Test.YtlehddifcjklgaaMC
import Derived.Maps.OwnIn
import Derived.Maps.OwnSet
import Derived.Maps.AppendAt
import Derived.RangeFuncNested
import Derived.RangeFuncBound
import Derived.RangeFuncCalls
import Derived.RangeFuncLeaves
import Derived.Shelf.Abstract
import Derived.Shelf.RegionOpen
import Derived.WalkKit
import Derived.OwnWalkIn
import Derived.TacticsInMore
import Derived.LoopNIn
import Derived.LoopIn
import Derived.WalkMore
import Derived.Sort.QuietThIn
import Derived.Sort.QuietTacIn
import Derived.Sort.BigQuietIn
import Derived.WalkSpells
import Derived.WalkLawsBesides
import Derived.BigQuiet
import Derived.Deep.QuietTactic
import Derived.Lib.Hide
import Derived.Deep.RegionHeld3
import Derived.StillTailTactics
import Derived.Deep.LoopGhost
import Derived.Lib.IndexAny
namespace Go.Proofs.Ytlehddifcjklgaa
open Go.RowKit Go.Shelf
attribute [local go_sem] Oper.semAt_some
set_option maxHeartbeats 400000 in
theorem Turn_any (a1 a2 b1 b2 c1 c2 : Int) (w : World) (h1 : Bd 1000 a1) (h2 : Bd 1000 a2) (h3 : Bd 1000 b1) (h4 : Bd 1000 b2) (h5 : Bd 1000 c1) (h6 : Bd 1000 c2) :
    Calls Try.prog 60 #[.agg #[.int .i64 a1, .int .i64 a2], .agg #[.int .i64 b1, .int .i64 b2], .agg #[.int .i64 c1, .int .i64 c2]] w fun e w' => e = .returned (.int .i64 (turn (a1, a2) (b1, b2) (c1, c2))) ∧ Below w.heap.size w w' := by
  have e1 := i64_bd (h3.sub h1) (by omega)
  have e2 := i64_bd (h6.sub h4) (by omega)
  have e3 := i64_bd (h4.sub h2) (by omega)
  have e4 := i64_bd (h5.sub h3) (by omega)
  have e5 := i64_bd ((h3.sub h1).mul (h6.sub h4)) (by omega)
  have e6 := i64_bd ((h4.sub h2).mul (h5.sub h3)) (by omega)
  have e7 := i64_bd (((h3.sub h1).mul (h6.sub h4)).sub ((h4.sub h2).mul (h5.sub h3))) (by omega)
  unfold turn
  dsimp only
  go_enter Try.func60, Try.ntmps60
  go_wp2_with fail
  go_ret
  exact ⟨rfl, (((Below.refl w.heap.size w).alloc (Nat.le_refl _) _).alloc (by simp) _).alloc (by simp; omega) _⟩
set_option maxRecDepth 100000 in
set_option maxHeartbeats 1000000 in
theorem Numbers_mid (ps : List Pt) (b o c : Nat) (w : World) (hp : PtsAt w b o ps) (hl : ps.length ≤ 1000000) :
    Calls Try.prog 41 #[.slice (some ⟨b, o, none⟩) ps.length c] w fun e w' => e = .returned (.bool (areP ps)) ∧ Below w.heap.size w w' := by
  obtain ⟨E, hE⟩ : ∃ E : Bool, areP ps = E := ⟨_, rfl⟩
  rw [hE]
  have HE := Lib.hid hE
  have HP := Lib.hid hp
  clear hp hE
  go_enter Try.func41, Try.ntmps41
  go_wp2_with fail
  go_loopw [3] (fun i wr => ∃ k : Nat, k ≤ ps.length ∧ i = .int .i64 (k : Int) ∧ Hid (Below w.heap.size w wr) ∧ Hid ((ps.take k).all inR = true)) (fun i _ => ps.length - (intOf i).toNat)
  case atStart => exact ⟨0, by omega, rfl, Lib.hid (Below.refl _ _), Lib.hid rfl⟩
  case round =>
    obtain ⟨k, hk, rfl, HB, HK⟩ := hrel
    by_cases hlt : k < ps.length
    · have hd : decide ((k : Int) < (ps.length : Int)) = true := decide_eq_true (by omega)
      have hxw := HP.out.x k hlt
      have hyw := HP.out.y k hlt
      have HS := Lib.hid (show (ps.take (k + 1)).all inR = inR ps[k] by
        rw [List.take_succ_eq_append_getElem hlt, List.all_append, HK.out]; simp)
      have HF := Lib.hid (show inR ps[k] = false → E = false from fun h => by
        rw [← HE.out]; unfold areP
        rw [Bool.and_eq_false_iff]; right
        rw [List.all_eq_false]; exact ⟨ps[k], List.getElem_mem _, by simp [h]⟩)
      generalize ps[k] = p at *
      obtain ⟨p1, p2⟩ := p
      dsimp only at hxw hyw
      go_wp2_with fail
      go_loopw [4] (fun j wx => ∃ m : Nat, m ≤ 2 ∧ j = .int .i64 (m : Int) ∧ Hid (Below w.heap.size w wx) ∧ Hid (1 ≤ m → -20 ≤ p1 ∧ p1 ≤ 20) ∧ Hid (2 ≤ m → -20 ≤ p2 ∧ p2 ≤ 20)) (fun j _ => 2 - (intOf j).toNat)
      case atStart => exact ⟨0, by omega, rfl, HB, Lib.hid (fun h => by omega), Lib.hid (fun h => by omega)⟩
      case round =>
        clear HB
        obtain ⟨m, hm, rfl, HB, H1, H2⟩ := hrel
        have hx := below_at HB.out HP.out.lt hxw
        have hy := below_at HB.out HP.out.lt hyw
        obtain rfl | rfl | rfl : m = 0 ∨ m = 1 ∨ m = 2 := by omega
        · by_cases h1 : p1 < -20
          · have d1 : decide (p1 < -20) = true := decide_eq_true h1
            have HEE := Lib.hid (HF.out (inR_false (.inl h1)))
            go_wp2_with fail
            go_ret
            exact ⟨ret_bool HEE.out.symm, HB.out⟩
          · have d1 : decide (p1 < -20) = false := decide_eq_false h1
            by_cases h2 : 20 < p1
            · have d2 : decide (20 < p1) = true := decide_eq_true h2
              have HEE := Lib.hid (HF.out (inR_false (.inr (.inr (.inl h2)))))
              go_wp2_with fail
              go_ret
              exact ⟨ret_bool HEE.out.symm, HB.out⟩
            · have d2 : decide (20 < p1) = false := decide_eq_false h2
              go_wp2_with fail
              exact ⟨⟨1, by omega, by simp, HB, Lib.hid (fun _ => by omega), Lib.hid (fun h => by omega)⟩, by simp [intOf]⟩
        · by_cases h1 : p2 < -20
          · have d1 : decide (p2 < -20) = true := decide_eq_true h1
            have HEE := Lib.hid (HF.out (inR_false (.inr (.inl h1))))
            go_wp2_with fail
            go_ret
            exact ⟨ret_bool HEE.out.symm, HB.out⟩
          · have d1 : decide (p2 < -20) = false := decide_eq_false h1
            by_cases h2 : 20 < p2
            · have d2 : decide (20 < p2) = true := decide_eq_true h2
              have HEE := Lib.hid (HF.out (inR_false (.inr (.inr (.inr h2)))))
              go_wp2_with fail
              go_ret
              exact ⟨ret_bool HEE.out.symm, HB.out⟩
            · have d2 : decide (20 < p2) = false := decide_eq_false h2
              go_wp2_with fail
              exact ⟨⟨2, by omega, by simp, HB, Lib.hid (fun _ => H1.out (by omega)), Lib.hid (fun _ => by omega)⟩, by simp [intOf]⟩
        · have HG := Lib.hid (show (ps.take (k + 1)).all inR = true by
            rw [HS.out]
            have a := H1.out (by omega)
            have b := H2.out (by omega)
            exact inR_true a.1 a.2 b.1 b.2)
          go_wp2_with fail
          exact ⟨⟨k + 1, by omega, by simp, HB, HG⟩, by simp [intOf]; omega⟩
    · have hd : decide ((k : Int) < (ps.length : Int)) = false := decide_eq_false (by omega)
      obtain rfl : k = ps.length := by omega
      have HA := Lib.hid (show ps.all inR = true by have := HK.out; rwa [List.take_length] at this)
      by_cases g1 : 3 ≤ ps.length
      · have d1 : decide (3 ≤ (ps.length : Int)) = true := decide_eq_true (by omega)
        by_cases g2 : ps.length ≤ 12
        · have d2 : decide ((ps.length : Int) ≤ 12) = true := decide_eq_true (by omega)
          have HEE := Lib.hid (show E = true by rw [← HE.out]; unfold areP; rw [HA.out]; simp [g1, g2])
          go_wp2_with fail
          go_ret
          exact ⟨ret_bool HEE.out.symm, HB.out⟩
        · have d2 : decide ((ps.length : Int) ≤ 12) = false := decide_eq_false (by omega)
          have HEE := Lib.hid (show E = false by rw [← HE.out]; unfold areP; simp [g2])
          go_wp2_with fail
          go_ret
          exact ⟨ret_bool HEE.out.symm, HB.out⟩
      · have d1 : decide (3 ≤ (ps.length : Int)) = false := decide_eq_false (by omega)
        have HEE := Lib.hid (show E = false by rw [← HE.out]; unfold areP; simp [g1])
        go_wp2_with fail
        go_ret
        exact ⟨ret_bool HEE.out.symm, HB.out⟩
theorem Numbers_nil (a : Option Addr) (c : Nat) (w : World) :
    Calls Try.prog 41 #[.slice a 0 c] w fun e w' => e = .returned (.bool false) ∧ Below w.heap.size w w' := by
  go_enter Try.func41, Try.ntmps41
  go_wp2_with fail
  go_loopw [3] (fun i wr => i = .int .i64 0 ∧ Hid (Below w.heap.size w wr)) (fun i _ => 0)
  case atStart => exact ⟨rfl, Lib.hid (Below.refl _ _)⟩
  case round =>
    obtain ⟨rfl, HB⟩ := hrel
    go_wp2_with fail
    go_ret
    exact ⟨rfl, HB.out⟩
theorem Numbers_any (ps : List Pt) (a : Option Addr) (c : Nat) (w : World) (hp : PtsA w a ps c) (hl : ps.length ≤ 1000000) :
    Calls Try.prog 41 #[.slice a ps.length c] w fun e w' => e = .returned (.bool (areP ps)) ∧ Below w.heap.size w w' := by
  rcases hp with rfl | ⟨b, o, rfl, hp, _⟩
  · exact Numbers_nil a c w
  · exact Numbers_mid ps b o c w hp hl
end Go.Proofs.Ytlehddifcjklgaa
namespace Go.Proofs.Ytlehddifcjklgaa
open Go.RowKit Go.Shelf
attribute [local go_sem] Oper.semAt_some
def sideK (ps : List Pt) (i k : Nat) : Prop := k ≠ i → k ≠ (i + 1) % ps.length → 0 < turn (ptAt ps i) (nx ps i) (ptAt ps k)
set_option maxRecDepth 100000 in
set_option maxHeartbeats 1000000 in
theorem rHull_mid (ps : List Pt) (b c : Nat) (w : World) (hp : PtsAt w b 0 ps) (ha : areP ps = true) :
    Calls Try.prog 19 #[.slice (some ⟨b, 0, none⟩) ps.length c] w fun e w' => e = .returned (.bool (chk ps)) ∧ Below w.heap.size w w' := by
  obtain ⟨h3, h12⟩ := areP_len ha
  have hnc : PtsA w (some ⟨b, 0, none⟩) ps ps.length := .inr ⟨b, 0, rfl, hp, Nat.le_refl _⟩
  have hN := Numbers_mid ps b 0 c w hp (by omega)
  rw [ha] at hN
  obtain ⟨E, hE⟩ : ∃ E : Bool, chk ps = E := ⟨_, rfl⟩
  rw [hE]
  have HE := Lib.hid hE
  have HP := Lib.hid hp
  have HA := Lib.hid ha
  have HN := Lib.hid hN
  clear hp hE ha hnc hN
  go_enter Try.func19, Try.ntmps19
  go_wp2_with fail
  refine HN.out.mono ?_
  rintro e w1 ⟨rfl, hb⟩
  have HB := Lib.hid hb
  clear hb HN
  go_wp2_with fail
  go_loopw [4] (fun i wr => ∃ k : Nat, k ≤ ps.length ∧ i = .int .i64 (k : Int) ∧ Hid (Below w.heap.size w wr) ∧ Hid (∀ x, x < k → sideAt ps x = true)) (fun i _ => ps.length - (intOf i).toNat)
  case atStart => exact ⟨0, by omega, rfl, HB, Lib.hid (fun x h => by omega)⟩
  case round =>
    clear HB
    obtain ⟨i, hi, rfl, HB, HK⟩ := hrel
    by_cases hlt : i < ps.length
    · have hd : decide ((i : Int) < (ps.length : Int)) = true := decide_eq_true (by omega)
      have hS := Lib.hid (fun h => (sideAt_iff h3 hlt).2 h)
      have hS2 := Lib.hid (show ∀ k, k < ps.length → ¬ sideK ps i k → E = false from fun k hk h => by
        rw [← HE.out]
        refine chk_false hlt ?_
        cases hs : sideAt ps i with
        | false => rfl
        | true => exact absurd ((sideAt_iff h3 hlt).1 hs k hk) h)
      obtain ⟨j, hj⟩ : ∃ j, (i + 1) % ps.length = j := ⟨_, rfl⟩
      have hjl : j < ps.length := by rw [← hj]; exact Nat.mod_lt _ (by omega)
      have ej2 : ((i : Int) + 1) % (ps.length : Int) = (j : Int) := by rw [← hj, Int.natCast_emod]; rfl
      have ej1 : ((i : Int) + 1).tmod (ps.length : Int) = (j : Int) := by
        rw [Int.tmod_eq_emod_of_nonneg (by omega)]; exact ej2
      have z1 : ¬ ((ps.length : Int) = 0) := by omega
      have HJ := Lib.hid hj
      clear hj
      go_wp2_with fail
      go_loopw [5] (fun v wr => ∃ k : Nat, k ≤ ps.length ∧ v = .int .i64 (k : Int) ∧ Hid (Below w.heap.size w wr) ∧ Hid (∀ x, x < k → sideK ps i x)) (fun v _ => ps.length - (intOf v).toNat)
      case atStart => exact ⟨0, by omega, rfl, HB, Lib.hid (fun x h => by omega)⟩
      case round =>
        clear HB
        obtain ⟨k, hk, rfl, HB, HKK⟩ := hrel
        by_cases hlk : k < ps.length
        · have hd : decide ((k : Int) < (ps.length : Int)) = true := decide_eq_true (by omega)
          have hpt := HP.out.grow HB.out
          have xi := Kl.cell hpt.lt (hpt.x i hlt)
          have yi := Kl.cell hpt.lt (hpt.y i hlt)
          have xj := Kl.cell hpt.lt (hpt.x j hjl)
          have yj := Kl.cell hpt.lt (hpt.y j hjl)
          have xk := Kl.cell hpt.lt (hpt.x k hlk)
          have yk := Kl.cell hpt.lt (hpt.y k hlk)
          simp only [Nat.zero_add] at xi yi xj yj xk yk
          have bi := inR_bd HA.out hlt
          have bj := inR_bd HA.out hjl
          have bk := inR_bd HA.out hlk
          have HSK := Lib.hid (show sideK ps i k ↔ (k ≠ i → k ≠ j → 0 < turn ps[i] ps[j] ps[k]) by
            unfold sideK nx; rw [HJ.out, ptAt_lt hlt, ptAt_lt hjl, ptAt_lt hlk])
          generalize ps[i] = pi at *
          generalize ps[j] = pj at *
          generalize ps[k] = pk at *
          obtain ⟨i1, i2⟩ := pi
          obtain ⟨j1, j2⟩ := pj
          obtain ⟨k1, k2⟩ := pk
          dsimp only at xi yi xj yj xk yk bi bj bk
          have HT := Lib.hid (fun W => Turn_any i1 i2 j1 j2 k1 k2 W (bi.1.mono (by omega)) (bi.2.mono (by omega)) (bj.1.mono (by omega)) (bj.2.mono (by omega)) (bk.1.mono (by omega)) (bk.2.mono (by omega)))
          generalize turn (i1, i2) (j1, j2) (k1, k2) = t at *
          clear hpt bi bj bk
          by_cases hki : k = i
          · have HNX := Lib.hid (show ∀ x, x < k + 1 → sideK ps i x from fun x hx => by
              by_cases h : x = k
              · subst h; exact HSK.out.2 (fun h => absurd hki h)
              · exact HKK.out x (by omega))
            clear hS hS2
            have n1 : ((k : Int) != (i : Int)) = false := by simp [hki]
            have n2 : (k != i) = false := by simp [hki]
            clear hki HSK
            go_wp2_with fail
            refine wp_region_below (by kernel_rfl) (by kernel_rfl) ?_
            repeat (go_big_quiet_step (first | (go_at_call 60; exact Kl.call (HT.out _))))
            refine wpQuiet_nil ?_
            rintro _ ⟨wq, rfl⟩
            have T5 := Lib.hid (Below.andThen HB.out wq.h (Nat.le_refl _))
            go_wp2_with fail
            exact ⟨⟨k + 1, by omega, by simp, T5, HNX⟩, by simp [intOf]; omega⟩
          · have n1 : ((k : Int) != (i : Int)) = true := by simp; omega
            have n2 : (k != i) = true := by simp; omega
            by_cases hkj : k = j
            · have HNX := Lib.hid (show ∀ x, x < k + 1 → sideK ps i x from fun x hx => by
                by_cases h : x = k
                · subst h; exact HSK.out.2 (fun _ h => absurd hkj h)
                · exact HKK.out x (by omega))
              clear hS hS2
              have n3 : ((k : Int) != (j : Int)) = false := by simp [hkj]
              have n4 : (k != j) = false := by simp [hkj]
              clear hki hkj HSK
              go_wp2_with fail
              refine wp_region_below (by kernel_rfl) (by kernel_rfl) ?_
              repeat (go_big_quiet_step (first | (go_at_call 60; exact Kl.call (HT.out _))))
              refine wpQuiet_nil ?_
              rintro _ ⟨wq, rfl⟩
              have T5 := Lib.hid (Below.andThen HB.out wq.h (Nat.le_refl _))
              go_wp2_with fail
              exact ⟨⟨k + 1, by omega, by simp, T5, HNX⟩, by simp [intOf]; omega⟩
            · have n3 : ((k : Int) != (j : Int)) = true := by simp; omega
              have n4 : (k != j) = true := by simp; omega
              by_cases ht : t ≤ 0
              · have d1 : decide (t ≤ 0) = true := decide_eq_true ht
                have HEE := Lib.hid (hS2.out k hlk (fun h => by have := HSK.out.1 h hki hkj; omega))
                clear hki hkj
                go_wp2_with fail
                refine wp_region_below (by kernel_rfl) (by kernel_rfl) ?_
                repeat (go_big_quiet_step (first | (go_at_call 60; exact Kl.call (HT.out _))))
                refine wpQuiet_nil ?_
                rintro _ ⟨wq, rfl⟩
                have T5 := Lib.hid (Below.andThen HB.out wq.h (Nat.le_refl _))
                go_wp2_with fail
                go_ret
                exact ⟨ret_bool HEE.out.symm, T5.out⟩
              · have d1 : decide (t ≤ 0) = false := decide_eq_false ht
                have HNX := Lib.hid (show ∀ x, x < k + 1 → sideK ps i x from fun x hx => by
                  by_cases h : x = k
                  · subst h; exact HSK.out.2 (fun _ _ => by omega)
                  · exact HKK.out x (by omega))
                clear hS hS2 hki hkj HSK
                go_wp2_with fail
                refine wp_region_below (by kernel_rfl) (by kernel_rfl) ?_
                repeat (go_big_quiet_step (first | (go_at_call 60; exact Kl.call (HT.out _))))
                refine wpQuiet_nil ?_
                rintro _ ⟨wq, rfl⟩
                have T5 := Lib.hid (Below.andThen HB.out wq.h (Nat.le_refl _))
                go_wp2_with fail
                exact ⟨⟨k + 1, by omega, by simp, T5, HNX⟩, by simp [intOf]; omega⟩
        · have hd : decide ((k : Int) < (ps.length : Int)) = false := decide_eq_false (by omega)
          obtain rfl : k = ps.length := by omega
          have HNX := Lib.hid (show ∀ x, x < i + 1 → sideAt ps x = true from fun x hx => by
            by_cases h : x = i
            · subst h; exact hS.out (fun k hk => HKK.out k hk)
            · exact HK.out x (by omega))
          clear hS hS2
          go_wp2_with fail
          exact ⟨⟨i + 1, by omega, by simp, HB, HNX⟩, by simp [intOf]; omega⟩
    · have hd : decide ((i : Int) < (ps.length : Int)) = false := decide_eq_false (by omega)
      obtain rfl : i = ps.length := by omega
      have HEE := Lib.hid (show E = true by rw [← HE.out]; exact chk_true HA.out (fun x hx => HK.out x (List.mem_range.1 hx)))
      go_wp2_with fail
      go_ret
      exact ⟨ret_bool HEE.out.symm, HB.out⟩
theorem rHull_bad (ps : List Pt) (a : Option Addr) (c : Nat) (w : World) (hp : PtsA w a ps c) (hl : ps.length ≤ 1000000) (ha : areP ps = false) :
    Calls Try.prog 19 #[.slice a ps.length c] w fun e w' => e = .returned (.bool (chk ps)) ∧ Below w.heap.size w w' := by
  have hN := Numbers_any ps a c w hp hl
  rw [ha] at hN
  have hE : chk ps = false := by unfold chk; rw [ha]; rfl
  rw [hE]
  clear hE hp ha
  go_enter Try.func19, Try.ntmps19
  go_wp2_with fail
  refine hN.mono ?_
  rintro e w1 ⟨rfl, hb⟩
  have HB := Lib.hid hb
  clear hb hN
  go_wp2_with fail
  go_ret
  exact ⟨rfl, HB.out⟩
/-- the points of ps, at a block's start -/
def PtsZ (W : World) (a : Option Addr) (ps : List Pt) (c : Nat) : Prop := ps = [] ∨ ∃ b, a = some ⟨b, 0, none⟩ ∧ PtsAt W b 0 ps ∧ ps.length ≤ c
theorem PtsZ.toA {W : World} {a : Option Addr} {ps : List Pt} {c : Nat} (h : PtsZ W a ps c) : PtsA W a ps c := by
  rcases h with h | ⟨b, h1, h2⟩
  · exact .inl h
  · exact .inr ⟨b, 0, h1, h2⟩
theorem PtsZ.grow {W W' : World} {a : Option Addr} {ps : List Pt} {c : Nat} (h : PtsZ W a ps c) (hb : Below W.heap.size W W') : PtsZ W' a ps c := by
  rcases h with h | ⟨b, h1, h2, h3⟩
  · exact .inl h
  · exact .inr ⟨b, h1, h2.grow hb, h3⟩
theorem OwnP.ptsZ {W : World} {n₀ : Nat} {a : Option Addr} {c : Nat} {ps : List Pt} (h : OwnP W n₀ (.slice a ps.length c) ps) : PtsZ W a ps c := by
  obtain ⟨a', c', he, h⟩ := h.open
  cases he
  rcases h with ⟨_, _, h⟩ | ⟨g, _, h1, h2, h3⟩
  · exact .inl h
  · exact .inr ⟨g, h1, h2, h3⟩
theorem rHull_any (ps : List Pt) (a : Option Addr) (c : Nat) (w : World) (hp : PtsZ w a ps c) (hl : ps.length ≤ 1000000) :
    Calls Try.prog 19 #[.slice a ps.length c] w fun e w' => e = .returned (.bool (chk ps)) ∧ Below w.heap.size w w' := by
  cases ha : areP ps with
  | false => exact rHull_bad ps a c w hp.toA hl ha
  | true =>
    have h3 := (areP_len ha).1
    rcases hp with rfl | ⟨b, rfl, hp, _⟩
    · simp at h3
    · exact rHull_mid ps b c w hp ha
theorem Check_all (ps : List Pt) (a : Option Addr) (c : Nat) (w : World) (hp : PtsZ w a ps c) (hl : ps.length ≤ 1000000) :
    Calls Try.prog 20 #[.slice a ps.length c] w fun e w' => e = .returned (.int .i64 (if chk ps then 0 else 30)) ∧ Below w.heap.size w w' := by
  rcases hp with rfl | ⟨b, rfl, hp, _⟩
  · exact check_bad [] a c w (by simp) rfl (fun W _ => arePoints_short [] a c W (by simp) (by simp))
  · exact check_any ps b c w hp hl
end Go.Proofs.Ytlehddifcjklgaa
namespace Go.Proofs.Ytlehddifcjklgaa
open Go.RowKit Go.Shelf
attribute [local go_sem] Oper.semAt_some
set_option maxRecDepth 100000 in
set_option maxHeartbeats 1000000 in
theorem bodyOf_bad (x sv : Value) (w : World) (hC : ∀ W, Below w.heap.size w W → Calls Try.prog 20 #[x] W fun e w' => e = .returned (.int .i64 30) ∧ Below W.heap.size W w') :
    Calls Try.prog 67 #[x, sv] w fun e w' => e = .returned (.tuple #[.agg #[.slice none 0 0, .int .i64 0, .int .i64 0, .int .i64 0], .int .i64 30]) ∧ Below w.heap.size w w' := by
  have HC := Lib.hid hC
  clear hC
  go_enter Try.func67, Try.ntmps67
  go_wp2_with fail
  obtain ⟨W0, hW0⟩ : ∃ W0, W0 = w.alloc (.cells #[.slice none 0 0, .int .i64 0, .int .i64 0, .int .i64 0] 81) := ⟨_, rfl⟩
  have B0 := Lib.hid (show Below w.heap.size w W0 by rw [hW0]; exact (Below.refl _ _).alloc (Nat.le_refl _) _)
  have l0 : w.heap.size < W0.heap.size := by rw [hW0]; simp
  have r0 := Lib.hid (show Row W0 w.heap.size 81 [.slice none 0 0, .int .i64 0, .int .i64 0, .int .i64 0] by rw [hW0]; exact Row.new _ _ _)
  rw [← hW0]
  clear hW0
  refine (HC.out W0 B0.out).mono ?_
  rintro e w1 ⟨rfl, hb1⟩
  have T1 := Lib.hid (Below.andThen B0.out hb1 (Nat.le_refl _))
  have rr := r0.out.below hb1 l0
  have q0 := rr.cell 0
  have q1 := rr.cell 1
  have q2 := rr.cell 2
  have q3 := rr.cell 3
  have f0 := frozen_of_row _ w.heap.size 0 _ _ rr
  have f1 := frozen_of_row _ w.heap.size 1 _ _ rr
  have f2 := frozen_of_row _ w.heap.size 2 _ _ rr
  have f3 := frozen_of_row _ w.heap.size 3 _ _ rr
  simp only [List.getElem?_cons_zero, List.getElem?_cons_succ] at q0 q1 q2 q3
  have RR := Lib.hid rr
  clear hb1 rr
  go_wp2_with fail
  have hr : Row ((((w1.setCell ⟨w.heap.size, 0, none⟩ (.slice none 0 0)).setCell ⟨w.heap.size, 1, none⟩ (.int .i64 0)).setCell ⟨w.heap.size, 2, none⟩ (.int .i64 0)).setCell ⟨w.heap.size, 3, none⟩ (.int .i64 0)) w.heap.size 81 [.slice none 0 0, .int .i64 0, .int .i64 0, .int .i64 0] := by
    simpa using (((RR.out.set 0 (.slice none 0 0)).set 1 (.int .i64 0)).set 2 (.int .i64 0)).set 3 (.int .i64 0)
  have v0 := hr.cell 0
  have v1 := hr.cell 1
  have v2 := hr.cell 2
  have v3 := hr.cell 3
  simp only [List.getElem?_cons_zero, List.getElem?_cons_succ] at v0 v1 v2 v3
  refine bodyPost_ret (v := .tuple #[.agg #[.slice none 0 0, .int .i64 0, .int .i64 0, .int .i64 0], .int .i64 30]) (by simp [results, Try.results67, go_sem, v0, v1, v2, v3]) rfl ⟨rfl, ?_⟩
  exact (((T1.out.setCell (p := ⟨w.heap.size, 0, none⟩) (Nat.le_refl _) _).setCell (p := ⟨w.heap.size, 1, none⟩) (Nat.le_refl _) _).setCell (p := ⟨w.heap.size, 2, none⟩) (Nat.le_refl _) _).setCell (p := ⟨w.heap.size, 3, none⟩) (Nat.le_refl _) _
set_option maxRecDepth 100000 in
set_option maxHeartbeats 1000000 in
theorem Area_bad (x : Value) (w : World) (hC : ∀ W, Below w.heap.size w W → Calls Try.prog 20 #[x] W fun e w' => e = .returned (.int .i64 30) ∧ Below W.heap.size W w') :
    Calls Try.prog 21 #[x] w fun e w' => e = .returned (.tuple #[.int .i64 0, .int .i64 30]) ∧ Below w.heap.size w w' := by
  have HC := Lib.hid hC
  clear hC
  go_enter Try.func21, Try.ntmps21
  go_wp2_with fail
  refine (HC.out w (Below.refl _ _)).mono ?_
  rintro e w1 ⟨rfl, hb⟩
  go_wp2_with fail
  exact bodyPost_ret (v := .tuple #[.int .i64 0, .int .i64 30]) (by simp [results, Try.results21, go_sem]) rfl ⟨rfl, hb⟩
set_option maxRecDepth 100000 in
set_option maxHeartbeats 1000000 in
theorem Turned_bad (x : Value) (w : World) (hC : ∀ W, Below w.heap.size w W → Calls Try.prog 20 #[x] W fun e w' => e = .returned (.int .i64 30) ∧ Below W.heap.size W w') :
    Calls Try.prog 27 #[x] w fun e w' => e = .returned (.tuple #[.slice none 0 0, .int .i64 30]) ∧ Below w.heap.size w w' := by
  have HC := Lib.hid hC
  clear hC
  go_enter Try.func27, Try.ntmps27
  go_wp2_with fail
  refine (HC.out w (Below.refl _ _)).mono ?_
  rintro e w1 ⟨rfl, hb⟩
  go_wp2_with fail
  exact bodyPost_ret (v := .tuple #[.slice none 0 0, .int .i64 30]) (by simp [results, Try.results27, go_sem]) rfl ⟨rfl, hb⟩
set_option maxRecDepth 100000 in
set_option maxHeartbeats 1000000 in
theorem which_nil (fx : Nat) (w : World) :
    Calls Try.prog 68 #[.agg #[.slice none 0 0, .int .i64 0, .int .i64 0, .int .i64 0], .func (.func fx) #[.agg #[.slice none 0 0, .int .i64 0, .int .i64 0, .int .i64 0]] #[]] w
      fun e w' => e = .returned (.slice none 0 0) ∧ Below w.heap.size w w' := by
  go_enter Try.func68, Try.ntmps68
  go_wp2_with fail
  have B0 := Lib.hid (show Below w.heap.size w (w.alloc (.cells #[.slice none 0 0, .int .i64 0, .int .i64 0, .int .i64 0] 81)) from (Below.refl _ _).alloc (Nat.le_refl _) _)
  go_loopw [5, 10] (fun v i wr => v = .slice none 0 0 ∧ i = .int .i64 0 ∧ Hid (Below w.heap.size w wr)) (fun _ i _ => 0)
  case atStart => exact ⟨rfl, rfl, B0⟩
  case round =>
    obtain ⟨rfl, rfl, HB⟩ := hrel
    go_wp2_with fail
    go_ret
    exact ⟨rfl, HB.out⟩
set_option maxRecDepth 100000 in
set_option maxHeartbeats 1000000 in
theorem Rests_bad (x : Value) (w : World) (hM : ∀ W, Below w.heap.size w W → Calls Try.prog 67 #[x, .slice none 0 0] W fun e w' => e = .returned (.tuple #[.agg #[.slice none 0 0, .int .i64 0, .int .i64 0, .int .i64 0], .int .i64 30]) ∧ Below W.heap.size W w') :
    Calls Try.prog 23 #[x] w fun e w' => e = .returned (.tuple #[.slice none 0 0, .int .i64 30]) ∧ Below w.heap.size w w' := by
  have HM := Lib.hid hM
  clear hM
  go_enter Try.func23, Try.ntmps23
  go_wp2_with fail
  refine (HM.out w (Below.refl _ _)).mono ?_
  rintro e w1 ⟨rfl, hb⟩
  have T1 := Lib.hid (Below.al hb (Nat.le_refl _) (.cells #[.slice none 0 0, .int .i64 0, .int .i64 0, .int .i64 0] 81))
  clear hb
  go_wp2_with fail
  refine (which_nil 69 _).mono ?_
  rintro e w2 ⟨rfl, hb⟩
  have T2 := Lib.hid (Below.andThen T1.out hb (Nat.le_refl _))
  clear hb
  go_wp2_with fail
  exact bodyPost_ret (v := .tuple #[.slice none 0 0, .int .i64 30]) (by simp [results, Try.results23, go_sem]) rfl ⟨rfl, T2.out⟩
set_option maxRecDepth 100000 in
set_option maxHeartbeats 1000000 in
theorem Firm_bad (x : Value) (w : World) (hM : ∀ W, Below w.heap.size w W → Calls Try.prog 67 #[x, .slice none 0 0] W fun e w' => e = .returned (.tuple #[.agg #[.slice none 0 0, .int .i64 0, .int .i64 0, .int .i64 0], .int .i64 30]) ∧ Below W.heap.size W w') :
    Calls Try.prog 24 #[x] w fun e w' => e = .returned (.tuple #[.slice none 0 0, .int .i64 30]) ∧ Below w.heap.size w w' := by
  have HM := Lib.hid hM
  clear hM
  go_enter Try.func24, Try.ntmps24
  go_wp2_with fail
  refine (HM.out w (Below.refl _ _)).mono ?_
  rintro e w1 ⟨rfl, hb⟩
  have T1 := Lib.hid (Below.al hb (Nat.le_refl _) (.cells #[.slice none 0 0, .int .i64 0, .int .i64 0, .int .i64 0] 81))
  clear hb
  go_wp2_with fail
  refine (which_nil 70 _).mono ?_
  rintro e w2 ⟨rfl, hb⟩
  have T2 := Lib.hid (Below.andThen T1.out hb (Nat.le_refl _))
  clear hb
  go_wp2_with fail
  exact bodyPost_ret (v := .tuple #[.slice none 0 0, .int .i64 30]) (by simp [results, Try.results24, go_sem]) rfl ⟨rfl, T2.out⟩
set_option maxRecDepth 100000 in
set_option maxHeartbeats 1000000 in
theorem Tips_bad (x : Value) (w : World) (hM : ∀ W, Below w.heap.size w W → Calls Try.prog 67 #[x, .slice none 0 0] W fun e w' => e = .returned (.tuple #[.agg #[.slice none 0 0, .int .i64 0, .int .i64 0, .int .i64 0], .int .i64 30]) ∧ Below W.heap.size W w') :
    Calls Try.prog 25 #[x] w fun e w' => e = .returned (.tuple #[.slice none 0 0, .int .i64 30]) ∧ Below w.heap.size w w' := by
  have HM := Lib.hid hM
  clear hM
  go_enter Try.func25, Try.ntmps25
  go_wp2_with fail
  refine (HM.out w (Below.refl _ _)).mono ?_
  rintro e w1 ⟨rfl, hb⟩
  have T1 := Lib.hid (Below.al hb (Nat.le_refl _) (.cells #[.slice none 0 0, .int .i64 0, .int .i64 0, .int .i64 0] 81))
  clear hb
  go_wp2_with fail
  exact bodyPost_ret (v := .tuple #[.slice none 0 0, .int .i64 30]) (by simp [results, Try.results25, go_sem]) rfl ⟨rfl, T1.out⟩
set_option maxRecDepth 100000 in
set_option maxHeartbeats 1000000 in
theorem Lowest_bad (x : Value) (w : World) (hM : ∀ W, Below w.heap.size w W → Calls Try.prog 67 #[x, .slice none 0 0] W fun e w' => e = .returned (.tuple #[.agg #[.slice none 0 0, .int .i64 0, .int .i64 0, .int .i64 0], .int .i64 30]) ∧ Below W.heap.size W w') :
    Calls Try.prog 26 #[x] w fun e w' => e = .returned (.tuple #[.int .i64 0, .int .i64 30]) ∧ Below w.heap.size w w' := by
  have HM := Lib.hid hM
  clear hM
  go_enter Try.func26, Try.ntmps26
  go_wp2_with fail
  refine (HM.out w (Below.refl _ _)).mono ?_
  rintro e w1 ⟨rfl, hb⟩
  have T1 := Lib.hid (Below.al hb (Nat.le_refl _) (.cells #[.slice none 0 0, .int .i64 0, .int .i64 0, .int .i64 0] 81))
  clear hb
  go_wp2_with fail
  go_loopw [6, 16] (fun v i wr => v = .int .i64 0 ∧ i = .int .i64 0 ∧ Hid (Below w.heap.size w wr)) (fun _ i _ => 0)
  case atStart => exact ⟨rfl, rfl, T1⟩
  case round =>
    obtain ⟨rfl, rfl, HB⟩ := hrel
    go_wp2_with fail
    exact bodyPost_ret (v := .tuple #[.int .i64 0, .int .i64 30]) (by simp [results, Try.results26, go_sem]) rfl ⟨rfl, HB.out⟩
set_option maxRecDepth 100000 in
set_option maxHeartbeats 1000000 in
theorem Middle_bad (x : Value) (w : World) (hM : ∀ W, Below w.heap.size w W → Calls Try.prog 67 #[x, .slice none 0 0] W fun e w' => e = .returned (.tuple #[.agg #[.slice none 0 0, .int .i64 0, .int .i64 0, .int .i64 0], .int .i64 30]) ∧ Below W.heap.size W w') :
    Calls Try.prog 22 #[x] w fun e w' => e = .returned (.tuple #[.agg #[.int .i64 0, .int .i64 0, .int .i64 0], .int .i64 30]) ∧ Below w.heap.size w w' := by
  have HM := Lib.hid hM
  clear hM
  go_enter Try.func22, Try.ntmps22
  go_wp2_with fail
  obtain ⟨W0, hW0⟩ : ∃ W0, W0 = w.alloc (.cells #[.int .i64 0, .int .i64 0, .int .i64 0] 29) := ⟨_, rfl⟩
  have B0 := Lib.hid (show Below w.heap.size w W0 by rw [hW0]; exact (Below.refl _ _).alloc (Nat.le_refl _) _)
  have l0 : w.heap.size < W0.heap.size := by rw [hW0]; simp
  have r0 := Lib.hid (show Row W0 w.heap.size 29 [.int .i64 0, .int .i64 0, .int .i64 0] by rw [hW0]; exact Row.new _ _ _)
  rw [← hW0]
  clear hW0
  refine (HM.out W0 B0.out).mono ?_
  rintro e w1 ⟨rfl, hb1⟩
  obtain ⟨V, hV⟩ : ∃ V, V = w1.alloc (.cells #[.slice none 0 0, .int .i64 0, .int .i64 0, .int .i64 0] 81) := ⟨_, rfl⟩
  have BV := Lib.hid (show Below w.heap.size w V by rw [hV]; exact Below.al (Below.andThen B0.out hb1 (Nat.le_refl _)) (Nat.le_refl _) _)
  have rb : Row V w1.heap.size 81 [.slice none 0 0, .int .i64 0, .int .i64 0, .int .i64 0] := by rw [hV]; exact Row.new _ _ _
  have rr : Row V w.heap.size 29 [.int .i64 0, .int .i64 0, .int .i64 0] := by
    rw [hV]; exact (r0.out.below hb1 l0).below ((Below.refl _ _).alloc (Nat.le_refl _) _) (Nat.lt_of_lt_of_le l0 hb1.size)
  have b1 := rb.cell 1
  have b2 := rb.cell 2
  have b3 := rb.cell 3
  have q0 := rr.cell 0
  have q1 := rr.cell 1
  have q2 := rr.cell 2
  have f0 := frozen_of_row _ w.heap.size 0 _ _ rr
  have f1 := frozen_of_row _ w.heap.size 1 _ _ rr
  have f2 := frozen_of_row _ w.heap.size 2 _ _ rr
  simp only [List.getElem?_cons_zero, List.getElem?_cons_succ] at q0 q1 q2 b1 b2 b3
  have RR := Lib.hid rr
  clear rr rb hb1
  rw [hV] at q0 q1 q2 f0 f1 f2 b1 b2 b3
  go_wp2_with fail
  rw [← hV]
  clear hV
  have hr : Row (((V.setCell ⟨w.heap.size, 0, none⟩ (.int .i64 0)).setCell ⟨w.heap.size, 1, none⟩ (.int .i64 0)).setCell ⟨w.heap.size, 2, none⟩ (.int .i64 0)) w.heap.size 29 [.int .i64 0, .int .i64 0, .int .i64 0] := by
    simpa using ((RR.out.set 0 (.int .i64 0)).set 1 (.int .i64 0)).set 2 (.int .i64 0)
  have v0 := hr.cell 0
  have v1 := hr.cell 1
  have v2 := hr.cell 2
  simp only [List.getElem?_cons_zero, List.getElem?_cons_succ] at v0 v1 v2
  refine bodyPost_ret (v := .tuple #[.agg #[.int .i64 0, .int .i64 0, .int .i64 0], .int .i64 30]) (by simp [results, Try.results22, go_sem, v0, v1, v2]) rfl ⟨rfl, ?_⟩
  exact ((BV.out.setCell (p := ⟨w.heap.size, 0, none⟩) (Nat.le_refl _) _).setCell (p := ⟨w.heap.size, 1, none⟩) (Nat.le_refl _) _).setCell (p := ⟨w.heap.size, 2, none⟩) (Nat.le_refl _) _
set_option maxRecDepth 100000 in
set_option maxHeartbeats 1000000 in
theorem bodyOf_arg (ps : List Pt) (b c : Nat) (w : World) (g : Nat) (s : Int) (hg : g < w.heap.size) (hgc : w.cell? ⟨g, 0, none⟩ = some (.int .i64 s)) (hs : s < 0 ∨ (ps.length : Int) ≤ s) (hp : PtsAt w b 0 ps) (hck : chk ps = true) :
    Calls Try.prog 67 #[.slice (some ⟨b, 0, none⟩) ps.length c, .slice (some ⟨g, 0, none⟩) 1 1] w fun e w' => e = .returned (.tuple #[.agg #[.slice none 0 0, .int .i64 0, .int .i64 0, .int .i64 0], .int .i64 1]) ∧ Below w.heap.size w w' := by
  have ha : areP ps = true := by unfold chk at hck; exact (Bool.and_eq_true _ _ ▸ hck : _ ∧ _).1
  have hlen := areP_len ha
  have HC : Hid (∀ W, PtsAt W b 0 ps → Calls Try.prog 20 #[.slice (some ⟨b, 0, none⟩) ps.length c] W fun e w' => e = .returned (.int .i64 0) ∧ Below W.heap.size W w') := Lib.hid (fun W h => by
    have := check_any ps b c W h (by omega)
    rw [hck] at this; exact this)
  have HP := Lib.hid hp
  have hdd : decide (s < 0) = true ∨ (decide (s < 0) = false ∧ decide ((ps.length : Int) ≤ s) = true) := by
    by_cases h : s < 0
    · exact .inl (decide_eq_true h)
    · exact .inr ⟨decide_eq_false h, decide_eq_true (by omega)⟩
  clear hp hck ha hs
  go_enter Try.func67, Try.ntmps67
  go_wp2_with fail
  obtain ⟨W0, hW0⟩ : ∃ W0, W0 = w.alloc (.cells #[.slice none 0 0, .int .i64 0, .int .i64 0, .int .i64 0] 81) := ⟨_, rfl⟩
  have B0 := Lib.hid (show Below w.heap.size w W0 by rw [hW0]; exact (Below.refl _ _).alloc (Nat.le_refl _) _)
  have l0 : w.heap.size < W0.heap.size := by rw [hW0]; simp
  have r0 := Lib.hid (show Row W0 w.heap.size 81 [.slice none 0 0, .int .i64 0, .int .i64 0, .int .i64 0] by rw [hW0]; exact Row.new _ _ _)
  rw [← hW0]
  clear hW0
  refine (HC.out W0 (HP.out.grow B0.out)).mono ?_
  rintro e w1 ⟨rfl, hb1⟩
  have T1 := Lib.hid (Below.andThen B0.out hb1 (Nat.le_refl _))
  have rr := r0.out.below hb1 l0
  have q0 := rr.cell 0
  have q1 := rr.cell 1
  have q2 := rr.cell 2
  have q3 := rr.cell 3
  have f0 := frozen_of_row _ w.heap.size 0 _ _ rr
  have f1 := frozen_of_row _ w.heap.size 1 _ _ rr
  have f2 := frozen_of_row _ w.heap.size 2 _ _ rr
  have f3 := frozen_of_row _ w.heap.size 3 _ _ rr
  simp only [List.getElem?_cons_zero, List.getElem?_cons_succ] at q0 q1 q2 q3
  have RR := Lib.hid rr
  have hgc1 := below_at T1.out hg hgc
  clear hb1 rr hgc r0 B0
  go_wp2_with fail
  go_loopw [17] (fun i wr => i = .int .i64 0 ∧ wr = w1) (fun i _ => 0)
  case atStart => exact ⟨rfl, rfl⟩
  case round =>
    obtain ⟨rfl, rfl⟩ := hrel
    have hr : Row ((((wr.setCell ⟨w.heap.size, 0, none⟩ (.slice none 0 0)).setCell ⟨w.heap.size, 1, none⟩ (.int .i64 0)).setCell ⟨w.heap.size, 2, none⟩ (.int .i64 0)).setCell ⟨w.heap.size, 3, none⟩ (.int .i64 0)) w.heap.size 81 [.slice none 0 0, .int .i64 0, .int .i64 0, .int .i64 0] := by
      simpa using (((RR.out.set 0 (.slice none 0 0)).set 1 (.int .i64 0)).set 2 (.int .i64 0)).set 3 (.int .i64 0)
    have HR := Lib.hid hr
    clear hr
    rcases hdd with dd | ⟨dd, de⟩
    all_goals
      go_wp2_with fail
      have v0 := HR.out.cell 0
      have v1 := HR.out.cell 1
      have v2 := HR.out.cell 2
      have v3 := HR.out.cell 3
      simp only [List.getElem?_cons_zero, List.getElem?_cons_succ] at v0 v1 v2 v3
      refine bodyPost_ret (v := .tuple #[.agg #[.slice none 0 0, .int .i64 0, .int .i64 0, .int .i64 0], .int .i64 1]) (by simp [results, Try.results67, go_sem, v0, v1, v2, v3]) rfl ⟨rfl, ?_⟩
      exact (((T1.out.setCell (p := ⟨w.heap.size, 0, none⟩) (Nat.le_refl _) _).setCell (p := ⟨w.heap.size, 1, none⟩) (Nat.le_refl _) _).setCell (p := ⟨w.heap.size, 2, none⟩) (Nat.le_refl _) _).setCell (p := ⟨w.heap.size, 3, none⟩) (Nat.le_refl _) _
set_option maxRecDepth 100000 in
set_option maxHeartbeats 1000000 in
theorem Roll_bad (x : Value) (sd E : Int) (hE : E = 30 ∨ E = 1) (w : World) (hM : ∀ W g, Below w.heap.size w W → g < W.heap.size → W.cell? ⟨g, 0, none⟩ = some (.int .i64 sd) → Calls Try.prog 67 #[x, .slice (some ⟨g, 0, none⟩) 1 1] W fun e w' => e = .returned (.tuple #[.agg #[.slice none 0 0, .int .i64 0, .int .i64 0, .int .i64 0], .int .i64 E]) ∧ Below W.heap.size W w') :
    Calls Try.prog 29 #[x, .int .i64 sd] w fun e w' => e = .returned (.tuple #[.slice none 0 0, .int .i64 E]) ∧ Below w.heap.size w w' := by
  have HM := Lib.hid hM
  have d1 : (E != 0) = true := by rcases hE with rfl | rfl <;> rfl
  clear hM hE
  go_enter Try.func29, Try.ntmps29
  go_wp2_with fail
  go_step3
  go_wp2_with fail
  have B0 := Lib.hid (show Below w.heap.size w (w.alloc (.cells #[.int .i64 sd] 3)) from (Below.refl _ _).alloc (Nat.le_refl _) _)
  refine (HM.out _ w.heap.size B0.out (by simp) (by simp [cell_al])).mono ?_
  rintro e w1 ⟨rfl, hb⟩
  have T1 := Lib.hid (Below.andThen B0.out hb (Nat.le_refl _))
  clear hb
  go_wp2_with fail
  rw [Exit.noGoto_ret]
  exact bodyPost_ret (v := .tuple #[.slice none 0 0, .int .i64 E]) (by simp [results, Try.results29, go_sem]) rfl ⟨rfl, Below.al T1.out (Nat.le_refl _) _⟩
set_option maxRecDepth 100000 in
set_option maxHeartbeats 1000000 in
theorem Lean_bad (x : Value) (sd E : Int) (hE : E = 30 ∨ E = 1) (w : World) (hM : ∀ W g, Below w.heap.size w W → g < W.heap.size → W.cell? ⟨g, 0, none⟩ = some (.int .i64 sd) → Calls Try.prog 67 #[x, .slice (some ⟨g, 0, none⟩) 1 1] W fun e w' => e = .returned (.tuple #[.agg #[.slice none 0 0, .int .i64 0, .int .i64 0, .int .i64 0], .int .i64 E]) ∧ Below W.heap.size W w') :
    Calls Try.prog 30 #[x, .int .i64 sd] w fun e w' => e = .returned (.tuple #[.agg #[.int .i64 0, .int .i64 0], .int .i64 E]) ∧ Below w.heap.size w w' := by
  have HM := Lib.hid hM
  have d1 : (E != 0) = true := by rcases hE with rfl | rfl <;> rfl
  clear hM hE
  go_enter Try.func30, Try.ntmps30
  go_wp2_with fail
  obtain ⟨W0, hW0⟩ : ∃ W0, W0 = w.alloc (.cells #[.int .i64 0, .int .i64 0] 39) := ⟨_, rfl⟩
  have B0 := Lib.hid (show Below w.heap.size w W0 by rw [hW0]; exact (Below.refl _ _).alloc (Nat.le_refl _) _)
  have r0 := Lib.hid (show Row W0 w.heap.size 39 [.int .i64 0, .int .i64 0] by rw [hW0]; exact Row.new _ _ _)
  have s0 : W0.heap.size = w.heap.size + 1 := by rw [hW0]; simp
  rw [← hW0]
  clear hW0
  have B1 := Lib.hid (Below.al B0.out (Nat.le_refl _) (.cells #[.int .i64 sd] 3))
  refine (HM.out (W0.alloc (.cells #[.int .i64 sd] 3)) (w.heap.size + 1) B1.out (by simp [s0]) (by simp [cell_al, s0])).mono ?_
  rintro e w1 ⟨rfl, hb⟩
  have T1 := Lib.hid (Below.al (Below.andThen B1.out hb (Nat.le_refl _)) (Nat.le_refl _) (.cells #[.slice none 0 0, .int .i64 0, .int .i64 0, .int .i64 0] 81))
  have r1 := r0.out.below (B := W0.heap.size) (Below.al (Below.andThen ((Below.refl W0.heap.size W0).alloc (Nat.le_refl _) (.cells #[.int .i64 sd] 3)) hb (by simp)) (Nat.le_refl _) (.cells #[.slice none 0 0, .int .i64 0, .int .i64 0, .int .i64 0] 81)) r0.out.lt
  obtain ⟨z0, z1, z2, z3⟩ := two_cells r1
  clear hb r1
  go_wp2_with fail
  obtain ⟨q0, q1⟩ := two_set (x := .int .i64 0) (y := .int .i64 0) z0 z1
  refine bodyPost_ret (v := .tuple #[.agg #[.int .i64 0, .int .i64 0], .int .i64 E]) (by simp [results, Try.results30, go_sem, q0, q1]) rfl ⟨rfl, ?_⟩
  exact (T1.out.setCell (p := ⟨w.heap.size, 0, none⟩) (by simp) _).setCell (p := ⟨w.heap.size, 1, none⟩) (by simp) _
end Go.Proofs.Ytlehddifcjklgaa
namespace Go.Proofs.Ytlehddifcjklgaa
open Go.RowKit Go.Shelf
attribute [local go_sem] Oper.semAt_some
set_option maxRecDepth 100000 in
theorem eq29 (a b c : Int) (W : World) : (Op.equalIn 10000 29 (.agg #[.int .i64 a, .int .i64 b, .int .i64 c]) (.agg #[.int .i64 a, .int .i64 b, .int .i64 c])).run Try.prog W = .ok true W := by
  have info3' : ∃ i, Try.prog.info? 3 = some i := by
    obtain ⟨i0, hi, _⟩ := info_parts info3
    exact ⟨i0, hi⟩
  obtain ⟨i, hi⟩ := info3'
  refine (run_equalIn_array (P := Try.prog) W 9999 _ _ Try.underlying29 hi).trans ?_
  rw [cells3]
  have p0 : ∀ W, (part 3 #[.int .i64 a, .int .i64 b, .int .i64 c] 0).run Try.prog W = .ok (.int .i64 a) W := fun W => by kernel_rfl
  have p1 : ∀ W, (part 3 #[.int .i64 a, .int .i64 b, .int .i64 c] 1).run Try.prog W = .ok (.int .i64 b) W := fun W => by kernel_rfl
  have p2 : ∀ W, (part 3 #[.int .i64 a, .int .i64 b, .int .i64 c] 2).run Try.prog W = .ok (.int .i64 c) W := fun W => by kernel_rfl
  have pe : ∀ (a b : Int) (W : World), (Op.equalIn 9999 3 (.int .i64 a) (.int .i64 b)).run Try.prog W = .ok (a == b) W := fun a b W => by
    first
      | kernel_rfl
      | simp [Op.equalIn, go_sem]
  simp only [List.range, List.range.loop, Op.eqItems, Sem.run_bind, Nat.zero_mul, Nat.one_mul, Nat.reduceMul, p0, p1, p2, Result.andThen_ok, pe, beq_self_eq_true, Bool.not_true, Bool.false_eq_true, if_false, Sem.run_pure]
set_option maxRecDepth 100000 in
set_option maxHeartbeats 2000000 in
theorem HullChecks_any (ps : List Pt) (a : Option Addr) (c : Nat) (sd : Int) (w : World) (hp : PtsA w a ps c) (hc : ps.length ≤ c) (hn : a = none → c = 0) (hl : ps.length ≤ maxLen) (_hz : ∀ q ∈ ps, InI q.1 ∧ InI q.2) (_hi : InI sd) :
    Calls Try.prog 3 #[.slice a ps.length c, .int .i64 sd] w fun e w' => e = .returned (.bool true) ∧ Below w.heap.size w w' := by
  have hown := own_any ps a c w hp hc hn hl
  have h13 : (ps.take 13).length ≤ 13 := by rw [List.length_take]; omega
  generalize ps.take 13 = qs at *
  clear hp hc hn hl _hz
  go_enter Try.func3, Try.ntmps3
  go_wp2_with fail
  refine hown.mono ?_
  rintro e w1 ⟨v, rfl, ho, hb⟩
  obtain ⟨a2, c2, rfl, _⟩ := ho.open
  have HP1 := Lib.hid ho.ptsZ
  have T1 := Lib.hid hb
  clear hown ho hb
  have HR := rHull_any qs a2 c2 w1 HP1.out (by omega)
  cases ht : chk qs
  · rw [ht] at HR
    have HTT := Lib.hid ht
    clear ht
    go_wp2_with fail
    refine HR.mono ?_
    rintro e w2 ⟨rfl, hb⟩
    have HP2 := Lib.hid (HP1.out.grow hb)
    have T2 := Lib.hid (Below.andThen T1.out hb (Nat.le_refl _))
    have HC := Lib.hid (fun W (h : Below w2.heap.size w2 W) => (show Calls Try.prog 20 #[.slice a2 qs.length c2] W fun e w' => e = .returned (.int .i64 30) ∧ Below W.heap.size W w' by
      have := Check_all qs a2 c2 W (HP2.out.grow h) (by omega)
      rw [HTT.out] at this; exact this))
    have HM := Lib.hid (fun sv W (h : Below w2.heap.size w2 W) => bodyOf_bad (.slice a2 qs.length c2) sv W (fun W' h' => HC.out W' (Below.andThen h h' (Nat.le_refl _))))
    clear hb HR HP1 T1
    go_wp2_with fail
    refine (HC.out w2 (Below.refl _ _)).mono ?_
    rintro e w3 ⟨rfl, hb⟩
    have T3 := Lib.hid hb
    clear hb
    go_wp2_with fail
    refine (Area_bad (.slice a2 qs.length c2) w3 (fun W h => HC.out W (Below.andThen T3.out h (Nat.le_refl _)))).mono ?_
    rintro e w4 ⟨rfl, hb⟩
    have T4 := Lib.hid (Below.andThen T3.out hb (Nat.le_refl _))
    clear hb T3
    go_wp2_with fail
    refine (Middle_bad (.slice a2 qs.length c2) w4 (fun W h => HM.out _ W (Below.andThen T4.out h (Nat.le_refl _)))).mono ?_
    rintro e w5 ⟨rfl, hb⟩
    have T5 := Lib.hid (Below.al (Below.andThen T4.out hb (Nat.le_refl _)) (Nat.le_refl _) (.cells #[.int .i64 0, .int .i64 0, .int .i64 0] 29))
    have R5 := Lib.hid (Row.new w5 29 [.int .i64 0, .int .i64 0, .int .i64 0])
    clear hb T4
    go_wp2_with fail
    generalize w5.alloc (.cells #[.int .i64 0, .int .i64 0, .int .i64 0] 29) = V5 at *
    refine (Rests_bad (.slice a2 qs.length c2) V5 (fun W h => HM.out _ W (Below.andThen T5.out h (Nat.le_refl _)))).mono ?_
    rintro e w6 ⟨rfl, hb⟩
    have T6 := Lib.hid (Below.andThen T5.out hb (Nat.le_refl _))
    have R6 := Lib.hid (R5.out.below hb R5.out.lt)
    clear hb T5 R5
    go_wp2_with fail
    refine (Firm_bad (.slice a2 qs.length c2) w6 (fun W h => HM.out _ W (Below.andThen T6.out h (Nat.le_refl _)))).mono ?_
    rintro e w7 ⟨rfl, hb⟩
    have T7 := Lib.hid (Below.andThen T6.out hb (Nat.le_refl _))
    have R7 := Lib.hid (R6.out.below hb R6.out.lt)
    clear hb T6 R6
    go_wp2_with fail
    refine (Tips_bad (.slice a2 qs.length c2) w7 (fun W h => HM.out _ W (Below.andThen T7.out h (Nat.le_refl _)))).mono ?_
    rintro e w8 ⟨rfl, hb⟩
    have T8 := Lib.hid (Below.andThen T7.out hb (Nat.le_refl _))
    have R8 := Lib.hid (R7.out.below hb R7.out.lt)
    clear hb T7 R7
    go_wp2_with fail
    refine (Lowest_bad (.slice a2 qs.length c2) w8 (fun W h => HM.out _ W (Below.andThen T8.out h (Nat.le_refl _)))).mono ?_
    rintro e w9 ⟨rfl, hb⟩
    have T9 := Lib.hid (Below.andThen T8.out hb (Nat.le_refl _))
    have R9 := Lib.hid (R8.out.below hb R8.out.lt)
    clear hb T8 R8
    go_wp2_with fail
    refine (Turned_bad (.slice a2 qs.length c2) w9 (fun W h => HC.out W (Below.andThen T9.out h (Nat.le_refl _)))).mono ?_
    rintro e w10 ⟨rfl, hb⟩
    have T10 := Lib.hid (Below.andThen T9.out hb (Nat.le_refl _))
    have R10 := Lib.hid (R9.out.below hb R9.out.lt)
    clear hb T9 R9
    have c0 := R10.out.cell 0
    have c1 := R10.out.cell 1
    have c2' := R10.out.cell 2
    simp only [List.getElem?_cons_zero, List.getElem?_cons_succ] at c0 c1 c2'
    have E29 := eq29 0 0 0
    go_wp2_with fail
    clear c0 c1 c2' E29
    have HRO := Lib.hid (Roll_bad (.slice a2 qs.length c2) sd 30 (.inl rfl) w10 (fun W g h hg hgc => HM.out _ W (Below.andThen T10.out h (Nat.le_refl _))))
    refine HRO.out.mono ?_
    rintro e u1 ⟨rfl, hb⟩
    have U1 := Lib.hid (Below.andThen T10.out hb (Nat.le_refl _))
    clear hb HRO
    go_wp2_with fail
    refine (Lean_bad (.slice a2 qs.length c2) sd 30 (.inl rfl) u1 (fun W g h hg hgc => HM.out _ W (Below.andThen U1.out h (Nat.le_refl _)))).mono ?_
    rintro e u2 ⟨rfl, hb⟩
    have U2 := Lib.hid (Below.al (Below.andThen U1.out hb (Nat.le_refl _)) (Nat.le_refl _) (.cells #[.int .i64 0, .int .i64 0] 39))
    have E39 := eq39 0 0
    have rr := two_cells (Row.new u2 39 [.int .i64 0, .int .i64 0])
    obtain ⟨y0, y1, _, _⟩ := rr
    clear hb U1
    go_wp2_with fail
    refine (awake_any _).mono ?_
    rintro e u3 ⟨rfl, hb⟩
    have U3 := Lib.hid (Below.andThen U2.out hb (Nat.le_refl _))
    clear hb U2
    go_wp2_with fail
    go_ret
    exact ⟨rfl, Below.andThen T2.out U3.out (Nat.le_refl _)⟩
  · rw [ht] at HR
    have HTT := Lib.hid ht
    have hqs : qs ≠ [] := fun h => by subst h; simp [chk, areP] at ht
    clear ht
    go_wp2_with fail
    refine HR.mono ?_
    rintro e w2 ⟨rfl, hb⟩
    obtain ⟨b2, rfl, hpt, _⟩ : ∃ b2, a2 = some ⟨b2, 0, none⟩ ∧ PtsAt w2 b2 0 qs ∧ qs.length ≤ c2 := by
      rcases HP1.out.grow hb with h | h
      · exact absurd h hqs
      · exact h
    have HP2 := Lib.hid hpt
    have T2 := Lib.hid (Below.andThen T1.out hb (Nat.le_refl _))
    clear hb HR HP1 T1 hpt hqs
    go_wp2_with fail
    have hC := check_any qs b2 c2 w2 HP2.out (by omega)
    rw [HTT.out] at hC
    refine hC.mono ?_
    rintro e w3 ⟨rfl, hb⟩
    have T3 := Lib.hid hb
    clear hb hC
    by_cases hs : 0 ≤ sd ∧ sd < qs.length
    · have d1 : decide (sd < 0) = false := decide_eq_false (by omega)
      have d2 : decide ((qs.length : Int) ≤ sd) = false := decide_eq_false (by omega)
      clear hs
      go_wp2_with fail
      refine (awake_any _).mono ?_
      rintro e u3 ⟨rfl, hb⟩
      have U3 := Lib.hid (Below.andThen T3.out hb (Nat.le_refl _))
      clear hb
      go_wp2_with fail
      go_ret
      exact ⟨rfl, Below.andThen T2.out U3.out (Nat.le_refl _)⟩
    · have hdd : decide (sd < 0) = true ∨ (decide (sd < 0) = false ∧ decide ((qs.length : Int) ≤ sd) = true) := by
        by_cases h : sd < 0
        · exact .inl (decide_eq_true h)
        · exact .inr ⟨decide_eq_false h, decide_eq_true (by omega)⟩
      have HBA := Lib.hid (fun W g (h : Below w2.heap.size w2 W) hg hgc => bodyOf_arg qs b2 c2 W g sd hg hgc (by omega) (HP2.out.grow h) HTT.out)
      clear hs
      rcases hdd with dd | ⟨dd, de⟩
      all_goals
        go_wp2_with fail
        have HRO := Lib.hid (Roll_bad (.slice (some ⟨b2, 0, none⟩) qs.length c2) sd 1 (.inr rfl) w3 (fun W g h hg hgc => HBA.out W g (Below.andThen T3.out h (Nat.le_refl _)) hg hgc))
        refine HRO.out.mono ?_
        rintro e u1 ⟨rfl, hb⟩
        have U1 := Lib.hid (Below.andThen T3.out hb (Nat.le_refl _))
        clear hb HRO
        go_wp2_with fail
        refine (Lean_bad (.slice (some ⟨b2, 0, none⟩) qs.length c2) sd 1 (.inr rfl) u1 (fun W g h hg hgc => HBA.out W g (Below.andThen U1.out h (Nat.le_refl _)) hg hgc)).mono ?_
        rintro e u2 ⟨rfl, hb⟩
        have U2 := Lib.hid (Below.al (Below.andThen U1.out hb (Nat.le_refl _)) (Nat.le_refl _) (.cells #[.int .i64 0, .int .i64 0] 39))
        have E39 := eq39 0 0
        have rr := two_cells (Row.new u2 39 [.int .i64 0, .int .i64 0])
        obtain ⟨y0, y1, _, _⟩ := rr
        clear hb U1
        go_wp2_with fail
        refine (awake_any _).mono ?_
        rintro e u3 ⟨rfl, hb⟩
        have U3 := Lib.hid (Below.andThen U2.out hb (Nat.le_refl _))
        clear hb U2
        go_wp2_with fail
        go_ret
        exact ⟨rfl, Below.andThen T2.out U3.out (Nat.le_refl _)⟩

end Go.Proofs.Ytlehddifcjklgaa
namespace Go.Proofs.Ytlehddifcjklgaa
/-! the hull round points, as the reference goes round -/
theorem plucker (d u v w : Pt) : crs d v * crs u w = crs d u * crs v w + crs d w * crs u v := by unfold crs; grind
theorem lagr (u v : Pt) : dt u v * dt u v + crs u v * crs u v = dt u u * dt v v := by unfold crs dt; grind
theorem thirdv (p q n : Pt) : dt p p * crs n q = dt p q * crs n p + crs p q * dt n p := by unfold crs dt; grind
theorem crs_anti (u v : Pt) : crs v u = - crs u v := by unfold crs; grind
theorem dt_comm (u v : Pt) : dt v u = dt u v := by unfold dt; grind
theorem sq_nonneg (x : Int) : 0 ≤ x * x := by
  rcases Int.le_total 0 x with h | h
  · exact Int.mul_nonneg h h
  · exact Int.mul_nonneg_of_nonpos_of_nonpos h h
theorem sq_zero {x : Int} (h : x * x = 0) : x = 0 := by
  rcases Int.mul_eq_zero.1 h with h | h <;> exact h
theorem dt_nonneg (u : Pt) : 0 ≤ dt u u := by
  have h1 := sq_nonneg u.1
  have h2 := sq_nonneg u.2
  unfold dt; omega
theorem dt_zero {u : Pt} (h : dt u u = 0) : u = (0, 0) := by
  have h1 := sq_nonneg u.1
  have h2 := sq_nonneg u.2
  unfold dt at h
  have e1 : u.1 = 0 := sq_zero (by omega)
  have e2 : u.2 = 0 := sq_zero (by omega)
  exact Prod.ext e1 e2
theorem dt_pos' {u : Pt} (h : u ≠ (0, 0)) : 0 < dt u u := by
  have := dt_nonneg u
  rcases Int.lt_or_eq_of_le this with h1 | h1
  · exact h1
  · exact absurd (dt_zero h1.symm) h
theorem mn_zero {a b : Pt} (h : mn a b = (0, 0)) : a = b := by
  unfold mn at h
  simp only [Prod.mk.injEq] at h
  exact Prod.ext (by omega) (by omega)
theorem mn_ne {a b : Pt} (h : a ≠ b) : mn a b ≠ (0, 0) := fun e => h (mn_zero e)
/-- u lies to the left of d, or behind -/
def Half (d u : Pt) : Prop := 0 < crs d u ∨ (crs d u = 0 ∧ dt d u < 0)
theorem Half.nonneg {d u : Pt} (h : Half d u) : 0 ≤ crs d u := by
  rcases h with h | h <;> omega
theorem Half.ne {d u : Pt} (h : Half d u) : d ≠ (0, 0) ∧ u ≠ (0, 0) := by
  constructor
  · rintro rfl; unfold Half crs dt at h; simp at h
  · rintro rfl; unfold Half crs dt at h; simp at h
/-- two on one ray -/
theorem half_ray {d u v : Pt} (hu : Half d u) (hv : Half d v) (h : crs u v = 0) : 0 < dt u v := by
  have hl := lagr u v
  rw [h] at hl
  have p1 := dt_pos' hu.ne.2
  have p2 := dt_pos' hv.ne.2
  have p3 := Int.mul_pos p1 p2
  have hne : dt u v ≠ 0 := fun e => by rw [e] at hl; omega
  -- d d . u v = (d . u) (d . v) + (d x u) (d x v)
  have e : dt d d * dt u v = dt d u * dt d v + crs d u * crs d v := by unfold dt crs; grind
  have e2 : dt u u * crs d v = dt u v * crs d u + crs u v * dt d u := thirdv u v d
  rw [h, Int.zero_mul, Int.add_zero] at e2
  have hdd := dt_pos' hu.ne.1
  rcases Int.lt_trichotomy (dt u v) 0 with h1 | h1 | h1
  · exfalso
    rcases hu with hu | ⟨hu, hu2⟩
    · have := Int.mul_neg_of_neg_of_pos h1 hu
      have := Int.mul_nonneg (Int.le_of_lt p1) hv.nonneg
      omega
    · rw [hu, Int.mul_zero] at e2
      have hv0 : crs d v = 0 := by
        rcases Int.mul_eq_zero.1 e2 with h | h
        · omega
        · exact h
      rcases hv with hv | ⟨_, hv2⟩
      · omega
      · rw [hu, Int.zero_mul, Int.add_zero] at e
        have := Int.mul_pos_of_neg_of_neg hu2 hv2
        have := Int.mul_neg_of_pos_of_neg hdd h1
        omega
  · exact absurd h1 hne
  · exact h1
theorem half_trans {d u v w : Pt} (hu : Half d u) (hv : Half d v) (hw : Half d w) (h1 : 0 ≤ crs u v) (h2 : 0 ≤ crs v w) : 0 ≤ crs u w := by
  have hp := plucker d u v w
  rcases hv with hv | ⟨hv, hv2⟩
  · have a1 := Int.mul_nonneg hu.nonneg h2
    have a2 := Int.mul_nonneg hw.nonneg h1
    rcases Int.lt_or_le (crs u w) 0 with h | h
    · have := Int.mul_neg_of_pos_of_neg hv h; omega
    · exact h
  · -- v behind: then w behind, too
    have e1 : dt d d * crs v w = dt d v * crs d w - crs d v * dt d w := by unfold dt crs; grind
    rw [hv, Int.zero_mul, Int.sub_zero] at e1
    have hdd := dt_pos' hu.ne.1
    have hw0 : crs d w = 0 := by
      have a1 := Int.mul_nonneg (Int.le_of_lt hdd) h2
      have hwn := hw.nonneg
      rcases Int.lt_or_eq_of_le hwn with h | h
      · have := Int.mul_neg_of_neg_of_pos hv2 h; omega
      · exact h.symm
    have hw2 : dt d w < 0 := by rcases hw with h | h; omega; exact h.2
    have e2 : dt d d * crs u w = dt d u * crs d w - crs d u * dt d w := by unfold dt crs; grind
    rw [hw0, Int.mul_zero] at e2
    have a3 := Int.mul_nonneg hu.nonneg (show 0 ≤ - dt d w by omega)
    rw [Int.mul_neg] at a3
    rcases Int.lt_or_le (crs u w) 0 with h | h
    · have := Int.mul_neg_of_pos_of_neg hdd h; omega
    · exact h
/-- one that is before another is before what is on the other's ray -/
theorem ray_sign {d u v n : Pt} (hu : Half d u) (hv : Half d v) (h : crs u v = 0) : (0 ≤ crs n u → 0 ≤ crs n v) ∧ (0 < crs n u → 0 < crs n v) := by
  have hr := half_ray hu hv h
  have e := thirdv u v n
  rw [h, Int.zero_mul, Int.add_zero] at e
  have p1 := dt_pos' hu.ne.2
  constructor
  · intro hn
    have := Int.mul_nonneg (Int.le_of_lt hr) hn
    rcases Int.lt_or_le (crs n v) 0 with h | h
    · have := Int.mul_neg_of_pos_of_neg p1 h; omega
    · exact h
  · intro hn
    have := Int.mul_pos hr hn
    rcases Int.lt_or_le 0 (crs n v) with h | h
    · exact h
    · have := Int.mul_nonneg (Int.le_of_lt p1) (show 0 ≤ - crs n v by omega)
      rw [Int.mul_neg] at this; omega
/-- a point that no other two have between them: all others are in one half plane -/
def Ext (S : List Pt) (a : Pt) : Prop := ∃ d, ∀ p ∈ S, p ≠ a → Half d (mn p a)
/-- the square of the distance, as the reference reckons -/
def far (a b : Pt) : Int := (a.1 - b.1) * (a.1 - b.1) + (a.2 - b.2) * (a.2 - b.2)
theorem far_dt (a b : Pt) : far a b = dt (mn b a) (mn b a) := by unfold far dt mn; grind
def betterB (a n p : Pt) : Bool := decide (n = a) || (decide (turn a n p < 0) || (decide (turn a n p = 0) && decide (far a n < far a p)))
/-- one round of the search -/
def pick1 (a n p : Pt) : Pt := if p = a then n else if betterB a n p then p else n
def pick (S : List Pt) (a : Pt) : Pt := S.foldl (pick1 a) a
/-- n is the best of T as seen from a -/
def Best (T : List Pt) (a n : Pt) : Prop := n ∈ T ∧ n ≠ a ∧ ∀ p ∈ T, p ≠ a → 0 ≤ crs (mn n a) (mn p a) ∧ (crs (mn n a) (mn p a) = 0 → dt (mn p a) (mn p a) ≤ dt (mn n a) (mn n a))
theorem best_step {S : List Pt} {a d : Pt} (hS : ∀ p ∈ S, p ≠ a → Half d (mn p a)) {T : List Pt} {n p : Pt} (hT : ∀ q ∈ T, q ∈ S) (hp : p ∈ S) (h : (n = a ∧ ∀ q ∈ T, q = a) ∨ Best T a n) :
    (pick1 a n p = a ∧ ∀ q ∈ T ++ [p], q = a) ∨ Best (T ++ [p]) a (pick1 a n p) := by
  unfold pick1
  by_cases hpa : p = a
  · rw [if_pos hpa]
    rcases h with ⟨h1, h2⟩ | ⟨h1, h2, h3⟩
    · left
      refine ⟨h1, fun q hq => ?_⟩
      rcases List.mem_append.1 hq with hq | hq
      · exact h2 q hq
      · rw [List.mem_singleton.1 hq]; exact hpa
    · right
      refine ⟨List.mem_append_left _ h1, h2, fun q hq hqa => ?_⟩
      rcases List.mem_append.1 hq with hq | hq
      · exact h3 q hq hqa
      · rw [List.mem_singleton.1 hq] at hqa; exact absurd hpa hqa
  rw [if_neg hpa]
  have hHp := hS p hp hpa
  rcases h with ⟨h1, h2⟩ | ⟨h1, h2, h3⟩
  · have hb : betterB a n p = true := by unfold betterB; simp [h1]
    rw [if_pos hb]
    right
    refine ⟨by simp, hpa, fun q hq hqa => ?_⟩
    rcases List.mem_append.1 hq with hq | hq
    · exact absurd (h2 q hq) hqa
    · rw [List.mem_singleton.1 hq]
      exact ⟨by rw [crs_self]; omega, fun _ => Int.le_refl _⟩
  have hHn := hS n (hT n h1) h2
  have ht : turn a n p = crs (mn n a) (mn p a) := turn_crs a n p
  by_cases hneg : crs (mn n a) (mn p a) < 0
  · have hb : betterB a n p = true := by unfold betterB; rw [ht]; simp [hneg]
    rw [if_pos hb]
    right
    have hpn : 0 < crs (mn p a) (mn n a) := by rw [crs_anti]; omega
    refine ⟨by simp, hpa, fun q hq hqa => ?_⟩
    rcases List.mem_append.1 hq with hq | hq
    · have hHq := hS q (hT q hq) hqa
      obtain ⟨g1, _⟩ := h3 q hq hqa
      refine ⟨half_trans hHp hHn hHq (Int.le_of_lt hpn) g1, fun h0 => ?_⟩
      exfalso
      have hqp : crs (mn q a) (mn p a) = 0 := by rw [crs_anti, h0]; rfl
      have := (ray_sign hHq hHp hqp (n := mn n a)).1 g1
      omega
    · rw [List.mem_singleton.1 hq]
      exact ⟨by rw [crs_self]; omega, fun _ => Int.le_refl _⟩
  by_cases hz : crs (mn n a) (mn p a) = 0 ∧ dt (mn n a) (mn n a) < dt (mn p a) (mn p a)
  · have hb : betterB a n p = true := by unfold betterB; rw [ht, far_dt, far_dt]; simp [hz.1, hz.2]
    rw [if_pos hb]
    right
    refine ⟨by simp, hpa, fun q hq hqa => ?_⟩
    rcases List.mem_append.1 hq with hq | hq
    · have hHq := hS q (hT q hq) hqa
      obtain ⟨g1, g2⟩ := h3 q hq hqa
      have hnn : 0 ≤ crs (mn p a) (mn n a) := by rw [crs_anti, hz.1]; omega
      refine ⟨half_trans hHp hHn hHq hnn g1, fun h0 => ?_⟩
      have e1 : crs (mn n a) (mn q a) = 0 := by
        have hnp : crs (mn p a) (mn n a) = 0 := by rw [crs_anti, hz.1]; rfl
        have hqp : crs (mn q a) (mn p a) = 0 := by rw [crs_anti, h0]; rfl
        have := (ray_sign hHp hHn hnp (n := mn q a)).1 (by omega)
        rw [crs_anti] at this; omega
      have := g2 e1
      omega
    · rw [List.mem_singleton.1 hq]
      exact ⟨by rw [crs_self]; omega, fun _ => Int.le_refl _⟩
  · have hb : ¬ betterB a n p = true := by
      unfold betterB; rw [ht, far_dt, far_dt]
      simp only [Bool.or_eq_true, Bool.and_eq_true, decide_eq_true_eq]
      rintro (h | h | h)
      · exact h2 h
      · exact hneg h
      · exact hz h
    rw [if_neg hb]
    right
    refine ⟨List.mem_append_left _ h1, h2, fun q hq hqa => ?_⟩
    rcases List.mem_append.1 hq with hq | hq
    · exact h3 q hq hqa
    · rw [List.mem_singleton.1 hq]
      refine ⟨by omega, fun h0 => ?_⟩
      rcases Int.lt_or_le (dt (mn n a) (mn n a)) (dt (mn p a) (mn p a)) with h | h
      · exact absurd ⟨h0, h⟩ hz
      · exact h
theorem pick_best {S : List Pt} {a : Pt} (ha : Ext S a) (hne : ∃ p ∈ S, p ≠ a) : Best S a (pick S a) := by
  obtain ⟨d, hd⟩ := ha
  have key : ∀ (R T : List Pt) (n : Pt), (∀ q ∈ T, q ∈ S) → (∀ q ∈ R, q ∈ S) → ((n = a ∧ ∀ q ∈ T, q = a) ∨ Best T a n) → ((R.foldl (pick1 a) n = a ∧ ∀ q ∈ T ++ R, q = a) ∨ Best (T ++ R) a (R.foldl (pick1 a) n)) := by
    intro R
    induction R with
    | nil => intro T n _ _ h; simpa using h
    | cons p R ih =>
      intro T n hT hR h
      have h2 := best_step hd hT (hR p List.mem_cons_self) h
      have := ih (T ++ [p]) (pick1 a n p) (fun q hq => by
        rcases List.mem_append.1 hq with hq | hq
        · exact hT q hq
        · rw [List.mem_singleton.1 hq]; exact hR p List.mem_cons_self) (fun q hq => hR q (List.mem_cons_of_mem _ hq)) h2
      rw [List.append_assoc] at this
      simpa using this
  have := key S [] a (fun q h => by cases h) (fun q h => h) (.inl ⟨rfl, fun q h => by cases h⟩)
  rw [List.nil_append] at this
  rcases this with ⟨_, h⟩ | h
  · obtain ⟨p, hp, hpa⟩ := hne
    exact absurd (h p hp) hpa
  · exact h
end Go.Proofs.Ytlehddifcjklgaa
namespace Go.Proofs.Ytlehddifcjklgaa
theorem seg_lt {e u : Pt} (hc : crs e u = 0) (hd : 0 < dt e u) (hl : dt u u ≤ dt e e) (hne : u ≠ e) : dt e u < dt e e := by
  have h1 := lagr e u
  rw [hc, Int.zero_mul, Int.add_zero] at h1
  have hee : 0 < dt e e := by
    have := dt_nonneg e
    rcases Int.lt_or_eq_of_le this with h | h
    · exact h
    · have := dt_zero h.symm; subst this; unfold dt at hd; simp at hd
  rcases Int.lt_or_le (dt e u) (dt e e) with h | h
  · exact h
  · exfalso
    have a1 : dt e e * dt e e ≤ dt e u * dt e u := Int.mul_le_mul h h (Int.le_of_lt hee) (Int.le_of_lt hd)
    have a2 : dt e e * dt u u ≤ dt e e * dt e e := Int.mul_le_mul_of_nonneg_left hl (Int.le_of_lt hee)
    have a3 : dt e e * dt u u = dt e e * dt e e := by omega
    have a4 : dt u u = dt e e := Int.eq_of_mul_eq_mul_left (by omega) a3
    have a5 : dt e u = dt e e := by
      rcases Int.lt_or_eq_of_le h with h' | h'
      · have b1 : dt e e * dt e e < dt e u * dt e u := by
          have := Int.mul_lt_mul_of_pos_left h' hee
          have := Int.mul_lt_mul_of_pos_right h' hd
          omega
        omega
      · exact h'.symm
    have a6 : dt (mn u e) (mn u e) = dt u u - 2 * dt e u + dt e e := by unfold dt mn; grind
    exact hne (mn_zero (dt_zero (by omega)))
theorem best_ext {S : List Pt} {a n : Pt} (ha : Ext S a) (hn : Best S a n) : Ext S n := by
  obtain ⟨d, hd⟩ := ha
  obtain ⟨h1, h2, h3⟩ := hn
  refine ⟨mn n a, fun p hp hpn => ?_⟩
  have ec : crs (mn n a) (mn p n) = crs (mn n a) (mn p a) := by unfold crs mn; grind
  have ed : dt (mn n a) (mn p n) = dt (mn n a) (mn p a) - dt (mn n a) (mn n a) := by unfold dt mn; grind
  have hee := dt_pos' (mn_ne h2)
  unfold Half
  rw [ec, ed]
  by_cases hpa : p = a
  · subst hpa
    have e0 : mn p p = (0, 0) := by unfold mn; simp
    rw [e0]
    right
    unfold crs dt at *
    simp only [Int.mul_zero] at *
    omega
  · obtain ⟨g1, g2⟩ := h3 p hp hpa
    rcases Int.lt_or_eq_of_le g1 with h | h
    · exact .inl h
    · right
      refine ⟨h.symm, ?_⟩
      have hr := half_ray (hd n h1 h2) (hd p hp hpa) h.symm
      have := seg_lt h.symm hr (g2 h.symm) (fun e => hpn (by
        have := congrArg (fun q : Pt => (q.1 + a.1, q.2 + a.2)) e
        unfold mn at this
        simp only [Prod.mk.injEq] at this
        exact Prod.ext (by omega) (by omega)))
      omega
/-- a corner is not between two others on a line -/
theorem ext_between {S : List Pt} {p a n : Pt} (hp : Ext S p) (ha : a ∈ S) (hn : n ∈ S) (hap : a ≠ p) (hnp : n ≠ p) (_hna : n ≠ a) (hc : crs (mn n a) (mn p a) = 0) (hd : 0 < dt (mn n a) (mn p a)) (hl : dt (mn p a) (mn p a) ≤ dt (mn n a) (mn n a)) : False := by
  obtain ⟨d, hd'⟩ := hp
  have k1 := hd' a ha hap
  have k2 := hd' n hn hnp
  have e1 : crs (mn a p) (mn n p) = crs (mn n a) (mn p a) := by unfold crs mn; grind
  have hr := half_ray k1 k2 (by rw [e1]; exact hc)
  have e2 : dt (mn a p) (mn n p) = dt (mn p a) (mn p a) - dt (mn n a) (mn p a) := by unfold dt mn; grind
  have h1 := lagr (mn n a) (mn p a)
  rw [hc, Int.zero_mul, Int.add_zero] at h1
  have hpp := dt_pos' (mn_ne (Ne.symm hap))
  generalize dt (mn n a) (mn p a) = x at *
  generalize dt (mn p a) (mn p a) = y at *
  generalize dt (mn n a) (mn n a) = z at *
  have a1 : y * y ≤ z * y := Int.mul_le_mul_of_nonneg_right hl (Int.le_of_lt hpp)
  have hxy : x < y := by omega
  have b1 := Int.mul_lt_mul_of_pos_left hxy hd
  have b2 := Int.mul_lt_mul_of_pos_right hxy hpp
  rw [Int.mul_comm x y] at b1
  have b3 : y * x = x * y := Int.mul_comm _ _
  omega
theorem pick_inj {S : List Pt} {p q r : Pt} (hp : p ∈ S) (hq : q ∈ S) (ep : Ext S p) (eq : Ext S q) (bp : Best S p r) (bq : Best S q r) : p = q := by
  rcases Classical.em (p = q) with h | hne
  · exact h
  exfalso
  obtain ⟨r1, r2, r3⟩ := bp
  obtain ⟨s1, s2, s3⟩ := bq
  obtain ⟨g1, g2⟩ := r3 q hq (Ne.symm hne)
  obtain ⟨g3, g4⟩ := s3 p hp hne
  have e : crs (mn r q) (mn p q) = - crs (mn r p) (mn q p) := by unfold crs mn; grind
  have hc : crs (mn r p) (mn q p) = 0 := by omega
  obtain ⟨d, hd⟩ := ep
  have hr := half_ray (hd r r1 r2) (hd q hq (Ne.symm hne)) hc
  exact ext_between eq hp r1 hne s2 r2 hc hr (g2 hc)
/-- going round: each corner's best is the next one, and the last one's the first -/
structure Cyc (S os : List Pt) : Prop where
  nodup : os.Nodup
  mem : ∀ x ∈ os, x ∈ S ∧ Ext S x
  next : ∀ i, i < os.length → Best S (ptAt os i) (nx os i)
theorem nodup_idx {os : List Pt} (h : os.Nodup) {i j : Nat} (hi : i < os.length) (hj : j < os.length) (he : ptAt os i = ptAt os j) : i = j := by
  rw [ptAt_lt hi, ptAt_lt hj] at he
  exact (List.getElem_inj h).1 he
theorem ptAt_mem {os : List Pt} {i : Nat} (hi : i < os.length) : ptAt os i ∈ os := by rw [ptAt_lt hi]; exact List.getElem_mem _
theorem Cyc.chk {S os : List Pt} (h : Cyc S os) (h3 : 3 ≤ os.length) (h12 : os.length ≤ 12) (hS : ∀ p ∈ S, inR p = true) : chk os = true := by
  have ha : areP os = true := by
    unfold areP
    simp only [Bool.and_eq_true, decide_eq_true_eq, List.all_eq_true]
    exact ⟨⟨h3, h12⟩, fun x hx => hS x (h.mem x hx).1⟩
  refine chk_true ha (fun i hi => ?_)
  have hi := List.mem_range.1 hi
  refine (sideAt_iff h3 hi).2 (fun k hk hki hkj => ?_)
  rw [turn_crs]
  have hjl : (i + 1) % os.length < os.length := Nat.mod_lt _ (by omega)
  obtain ⟨b1, b2, b3⟩ := h.next i hi
  have hka : ptAt os k ≠ ptAt os i := fun e => hki (nodup_idx h.nodup hk hi e)
  have hkn : ptAt os k ≠ nx os i := fun e => hkj (nodup_idx h.nodup hk hjl e)
  obtain ⟨kS, kE⟩ := h.mem _ (ptAt_mem hk)
  obtain ⟨iS, iE⟩ := h.mem _ (ptAt_mem hi)
  obtain ⟨g1, g2⟩ := b3 _ kS hka
  rcases Int.lt_or_eq_of_le g1 with h | h
  · exact h
  · exfalso
    obtain ⟨d, hd⟩ := iE
    have hr := half_ray (hd _ b1 b2) (hd _ kS hka) h.symm
    exact ext_between kE iS b1 (Ne.symm hka) (Ne.symm hkn) b2 h.symm hr (g2 h.symm)
theorem rot_at {os : List Pt} {k i : Nat} (hk : k ≤ os.length) (hi : i < os.length) : ptAt (os.drop k ++ os.take k) i = ptAt os ((i + k) % os.length) := by
  unfold ptAt
  by_cases h : i < os.length - k
  · rw [List.getD_eq_getElem?_getD, List.getElem?_append_left (by rw [List.length_drop]; exact h), List.getElem?_drop, Nat.mod_eq_of_lt (by omega), List.getD_eq_getElem?_getD, Nat.add_comm]
  · rw [List.getD_eq_getElem?_getD, List.getElem?_append_right (by rw [List.length_drop]; omega), List.length_drop, List.getElem?_take, if_pos (by omega), List.getD_eq_getElem?_getD]
    have : (i + k) % os.length = i - (os.length - k) := by
      rw [show i + k = i - (os.length - k) + os.length by omega, Nat.add_mod_right, Nat.mod_eq_of_lt (by omega)]
    rw [this]
theorem rot_len {os : List Pt} {k : Nat} (hk : k ≤ os.length) : (os.drop k ++ os.take k).length = os.length := by
  rw [List.length_append, List.length_drop, List.length_take]; omega
theorem Cyc.rot {S os : List Pt} (h : Cyc S os) {k : Nat} (hk : k ≤ os.length) (h0 : 0 < os.length) : Cyc S (os.drop k ++ os.take k) := by
  refine ⟨?_, fun x hx => ?_, fun i hi => ?_⟩
  · have : (os.take k ++ os.drop k).Nodup := by rw [List.take_append_drop]; exact h.nodup
    exact (List.perm_append_comm.nodup_iff).1 this
  · refine h.mem x ?_
    rcases List.mem_append.1 hx with hx | hx
    · exact List.mem_of_mem_drop hx
    · exact List.mem_of_mem_take hx
  · rw [rot_len hk] at hi
    unfold nx
    rw [rot_len hk, rot_at hk hi, rot_at hk (Nat.mod_lt _ h0)]
    have e : ((i + 1) % os.length + k) % os.length = ((i + k) % os.length + 1) % os.length := by
      rw [Nat.add_mod, Nat.mod_mod, ← Nat.add_mod, Nat.add_mod ((i + k) % os.length), Nat.mod_mod, ← Nat.add_mod]
      congr 1; omega
    rw [e]
    exact h.next _ (Nat.mod_lt _ h0)
/-- the walk so far -/
structure Way (S os : List Pt) (f a : Pt) : Prop where
  nodup : os.Nodup
  mem : ∀ x ∈ os, x ∈ S ∧ Ext S x
  next : ∀ i, i + 1 < os.length → Best S (ptAt os i) (ptAt os (i + 1))
  pos : 0 < os.length
  first : ptAt os 0 = f
  last : ptAt os (os.length - 1) = a
theorem Way.start {S : List Pt} {f : Pt} (hf : f ∈ S) (he : Ext S f) : Way S [f] f f :=
  ⟨by simp, fun x hx => by rw [List.mem_singleton.1 hx]; exact ⟨hf, he⟩, fun i h => by simp at h, by simp, rfl, rfl⟩
theorem Way.step {S os : List Pt} {f a n : Pt} (h : Way S os f a) (hn : Best S a n) (hnf : n ≠ f) : Way S (os ++ [n]) f n := by
  have hpos := h.pos
  have hlast := h.last
  have haS := h.mem a (by rw [← hlast]; exact ptAt_mem (by omega))
  have hnew : n ∉ os := fun hmem => by
    obtain ⟨j, hj, hje⟩ := List.getElem_of_mem hmem
    rw [← ptAt_lt hj] at hje
    by_cases hj0 : j = 0
    · subst hj0; exact hnf (by rw [← hje]; exact h.first)
    · have hb := h.next (j - 1) (by omega)
      rw [show j - 1 + 1 = j by omega, hje] at hb
      obtain ⟨pS, pE⟩ := h.mem _ (ptAt_mem (os := os) (i := j - 1) (by omega))
      have := pick_inj pS haS.1 pE haS.2 hb hn
      rw [← hlast] at this
      have := nodup_idx h.nodup (by omega) (by omega) this
      omega
  have hat : ∀ i, i < os.length → ptAt (os ++ [n]) i = ptAt os i := fun i hi => by
    rw [ptAt_lt (by simp; omega), ptAt_lt hi, List.getElem_append_left hi]
  have hatn : ptAt (os ++ [n]) os.length = n := by
    rw [ptAt_lt (by simp)]; simp
  refine ⟨?_, fun x hx => ?_, fun i hi => ?_, by simp, ?_, ?_⟩
  · rw [List.nodup_append]
    refine ⟨h.nodup, by simp, fun x hx y hy => ?_⟩
    rw [List.mem_singleton.1 hy]
    rintro rfl; exact hnew hx
  · rcases List.mem_append.1 hx with hx | hx
    · exact h.mem x hx
    · rw [List.mem_singleton.1 hx]; exact ⟨hn.1, best_ext haS.2 hn⟩
  · rw [List.length_append, List.length_singleton] at hi
    rw [hat i (by omega)]
    by_cases hi2 : i + 1 < os.length
    · rw [hat _ hi2]; exact h.next i hi2
    · have e : i + 1 = os.length := by omega
      rw [e, hatn, show i = os.length - 1 by omega, hlast]; exact hn
  · rw [hat 0 hpos]; exact h.first
  · rw [List.length_append, List.length_singleton, Nat.add_sub_cancel]; exact hatn
theorem Way.close {S os : List Pt} {f a : Pt} (h : Way S os f a) (hn : Best S a f) : Cyc S os := by
  refine ⟨h.nodup, h.mem, fun i hi => ?_⟩
  unfold nx
  by_cases hi2 : i + 1 < os.length
  · rw [Nat.mod_eq_of_lt hi2]; exact h.next i hi2
  · have e : i + 1 = os.length := by omega
    rw [e, Nat.mod_self, h.first, show i = os.length - 1 by omega, h.last]; exact hn
theorem nodup_le : ∀ {os S : List Pt}, os.Nodup → (∀ x ∈ os, x ∈ S) → os.length ≤ S.length
  | [], _, _, _ => by simp
  | x :: os, S, h, hs => by
    have hx := hs x List.mem_cons_self
    have hn := List.nodup_cons.1 h
    have ih := nodup_le (os := os) (S := S.erase x) hn.2 (fun y hy => by
      have hy' := hs y (List.mem_cons_of_mem _ hy)
      have hne : y ≠ x := fun e => hn.1 (e ▸ hy)
      exact (List.mem_erase_of_ne hne).2 hy')
    rw [List.length_erase_of_mem hx] at ih
    have : 0 < S.length := List.length_pos_of_mem hx
    simp only [List.length_cons]
    omega
def befB (a b : Pt) : Bool := decide (a.1 < b.1) || (decide (a.1 = b.1) && decide (a.2 < b.2))
theorem first_ext {S : List Pt} {f : Pt} (h : ∀ p ∈ S, befB p f = false) : Ext S f := by
  refine ⟨(0, -1), fun p hp hpf => ?_⟩
  have := h p hp
  unfold befB at this
  simp only [Bool.or_eq_false_iff, Bool.and_eq_false_iff, decide_eq_false_iff_not] at this
  unfold Half crs dt mn
  dsimp only
  have hne : ¬ (p.1 = f.1 ∧ p.2 = f.2) := fun e => hpf (Prod.ext e.1 e.2)
  omega
end Go.Proofs.Ytlehddifcjklgaa
namespace Go.Proofs.Ytlehddifcjklgaa
open Go.RowKit Go.Shelf
attribute [local go_sem] Oper.semAt_some
theorem sum_range_cyc (F : Nat → Int) : ∀ m, ((List.range (m + 1)).map (fun i => F ((i + 1) % (m + 1)))).sum = ((List.range (m + 1)).map F).sum := fun m => by
  have e1 : (List.range (m + 1)).map (fun i => F ((i + 1) % (m + 1))) = (List.range m).map (fun i => F (i + 1)) ++ [F 0] := by
    rw [List.range_succ, List.map_append]
    congr 1
    · refine List.map_congr_left (fun i hi => ?_)
      have := List.mem_range.1 hi
      rw [Nat.mod_eq_of_lt (by omega)]
    · simp
  have e2 : (List.range (m + 1)).map F = F 0 :: (List.range m).map (fun i => F (i + 1)) := by
    rw [List.range_succ_eq_map]; simp [Function.comp_def]
  rw [e1, e2, List.sum_append, List.sum_cons]
  simp only [List.sum_cons, List.sum_nil]
  omega
theorem sum_map_sub (f g : Nat → Int) : ∀ l : List Nat, (l.map (fun i => f i - g i)).sum = (l.map f).sum - (l.map g).sum
  | [] => rfl
  | x :: l => by simp only [List.map_cons, List.sum_cons, sum_map_sub f g l]; omega
theorem sum_map_add (f g : Nat → Int) : ∀ l : List Nat, (l.map (fun i => f i + g i)).sum = (l.map f).sum + (l.map g).sum
  | [] => rfl
  | x :: l => by simp only [List.map_cons, List.sum_cons, sum_map_add f g l]; omega
theorem sum_pos_of {f : Nat → Int} : ∀ {l : List Nat}, (∀ i ∈ l, 0 ≤ f i) → (∃ i ∈ l, 0 < f i) → 0 < (l.map f).sum
  | [], _, ⟨_, h, _⟩ => by cases h
  | x :: l, h, ⟨i, hi, hp⟩ => by
    simp only [List.map_cons, List.sum_cons]
    have hnn : 0 ≤ (l.map f).sum := by
      clear hi hp
      have h' := fun i hi => h i (List.mem_cons_of_mem x hi)
      clear h
      induction l with
      | nil => simp
      | cons y l ih =>
        simp only [List.map_cons, List.sum_cons]
        have := h' y List.mem_cons_self
        have := ih (fun i hi => h' i (List.mem_cons_of_mem _ hi))
        omega
    rcases List.mem_cons.1 hi with rfl | hi
    · omega
    · have := sum_pos_of (fun i hi => h i (List.mem_cons_of_mem _ hi)) ⟨i, hi, hp⟩
      have := h x List.mem_cons_self
      omega
/-- the area, from any point -/
theorem area_from (ps : List Pt) (c : Pt) (h : 0 < ps.length) : area ps = ((List.range ps.length).map (fun i => turn (ptAt ps i) (nx ps i) c)).sum := by
  have e : ∀ i, turn (ptAt ps i) (nx ps i) c = crsAt ps i + (crs c (ptAt ps i) - crs c (nx ps i)) := fun i => by unfold turn crsAt crs; grind
  have hm : (List.range ps.length).map (fun i => turn (ptAt ps i) (nx ps i) c) = (List.range ps.length).map (fun i => crsAt ps i + (crs c (ptAt ps i) - crs c (nx ps i))) := List.map_congr_left (fun i _ => e i)
  rw [hm, sum_map_add, sum_map_sub]
  have := sum_range_cyc (fun i => crs c (ptAt ps i)) (ps.length - 1)
  rw [show ps.length - 1 + 1 = ps.length by omega] at this
  have e3 : ((List.range ps.length).map (fun i => crs c (nx ps i))).sum = ((List.range ps.length).map (fun i => crs c (ptAt ps i))).sum := this
  rw [e3]
  unfold area
  omega
theorem chk_area {ps : List Pt} (h : chk ps = true) : 0 < area ps := by
  have ha : areP ps = true := by unfold chk at h; exact (Bool.and_eq_true _ _ ▸ h : _ ∧ _).1
  have h3 := (areP_len ha).1
  have hs : ∀ i, i < ps.length → sideAt ps i = true := fun i hi => by
    unfold chk at h
    rw [Bool.and_eq_true, List.all_eq_true] at h
    exact h.2 i (List.mem_range.2 hi)
  have ht : ∀ i, i < ps.length → 0 ≠ i → 0 ≠ (i + 1) % ps.length → 0 < turn (ptAt ps i) (nx ps i) (ptAt ps 0) := fun i hi h1 h2 => (sideAt_iff h3 hi).1 (hs i hi) 0 (by omega) h1 h2
  rw [area_from ps (ptAt ps 0) (by omega)]
  refine sum_pos_of (fun i hi => ?_) ⟨1, List.mem_range.2 (by omega), ht 1 (by omega) (by omega) (by rw [Nat.mod_eq_of_lt (by omega)]; omega)⟩
  have hi := List.mem_range.1 hi
  by_cases h0 : 0 = i
  · subst h0; rw [turn_end1]; omega
  · by_cases h1 : 0 = (i + 1) % ps.length
    · have : nx ps i = ptAt ps 0 := by unfold nx; rw [← h1]
      rw [this, turn_end2]; omega
    · exact Int.le_of_lt (ht i hi h0 h1)
theorem eq58g (a b c d : Int) (W : World) : (Op.equalIn 10000 58 (.agg #[.int .i64 a, .int .i64 b]) (.agg #[.int .i64 c, .int .i64 d])).run Try.prog W = .ok (decide (((a, b) : Pt) = (c, d))) W := by
  have info3' : ∃ i, Try.prog.info? 3 = some i := by
    obtain ⟨i0, hi, _⟩ := info_parts info3
    exact ⟨i0, hi⟩
  obtain ⟨i, hi⟩ := info3'
  refine (run_equalIn_array (P := Try.prog) W 9999 _ _ Try.underlying58 hi).trans ?_
  rw [cells3]
  have p0 : ∀ (a b : Int) W, (part 3 #[.int .i64 a, .int .i64 b] 0).run Try.prog W = .ok (.int .i64 a) W := fun a b W => by kernel_rfl
  have p1 : ∀ (a b : Int) W, (part 3 #[.int .i64 a, .int .i64 b] 1).run Try.prog W = .ok (.int .i64 b) W := fun a b W => by kernel_rfl
  have pe : ∀ (a b : Int) (W : World), (Op.equalIn 9999 3 (.int .i64 a) (.int .i64 b)).run Try.prog W = .ok (a == b) W := fun a b W => by
    first
      | kernel_rfl
      | simp [Op.equalIn, go_sem]
  simp only [List.range, List.range.loop, Op.eqItems, Sem.run_bind, Nat.zero_mul, Nat.one_mul, p0, Result.andThen_ok, pe, Prod.mk.injEq]
  by_cases h1 : a = c
  · by_cases h2 : b = d
    · simp [h1, h2, p1, pe, Sem.run_pure]
    · have : (b == d) = false := by simpa using h2
      simp [h1, h2, this, p1, pe, Sem.run_pure]
  · have : (a == c) = false := by simpa using h1
    simp [h1, this, Sem.run_pure]
set_option maxHeartbeats 400000 in
theorem Before_any (a1 a2 b1 b2 : Int) (w : World) :
    Calls Try.prog 61 #[.agg #[.int .i64 a1, .int .i64 a2], .agg #[.int .i64 b1, .int .i64 b2]] w fun e w' => e = .returned (.bool (befB (a1, a2) (b1, b2))) ∧ Below w.heap.size w w' := by
  obtain ⟨E, hE⟩ : ∃ E, befB (a1, a2) (b1, b2) = E := ⟨_, rfl⟩
  rw [hE]
  unfold befB at hE
  dsimp only at hE
  by_cases h1 : a1 < b1
  · have d1 : decide (a1 < b1) = true := decide_eq_true h1
    have HE := Lib.hid (show true = E by rw [← hE, d1]; rfl)
    clear hE
    go_enter Try.func61, Try.ntmps61
    go_wp2_with fail
    go_ret
    exact ⟨ret_bool HE.out, ((Below.refl w.heap.size w).alloc (Nat.le_refl _) _).alloc (by simp) _⟩
  · have d1 : decide (a1 < b1) = false := decide_eq_false h1
    by_cases h2 : a1 = b1
    · have d2 : (a1 == b1) = true := by simp [h2]
      have HE := Lib.hid (show decide (a2 < b2) = E by rw [← hE, d1]; simp [h2])
      clear hE
      go_enter Try.func61, Try.ntmps61
      go_wp2_with fail
      go_ret
      exact ⟨ret_bool HE.out, ((Below.refl w.heap.size w).alloc (Nat.le_refl _) _).alloc (by simp) _⟩
    · have d2 : (a1 == b1) = false := by simp [h2]
      have HE := Lib.hid (show false = E by rw [← hE, d1]; simp [h2])
      clear hE
      go_enter Try.func61, Try.ntmps61
      go_wp2_with fail
      go_ret
      exact ⟨ret_bool HE.out, ((Below.refl w.heap.size w).alloc (Nat.le_refl _) _).alloc (by simp) _⟩
set_option maxHeartbeats 400000 in
theorem far_any (a1 a2 b1 b2 : Int) (w : World) (h1 : Bd 1000 a1) (h2 : Bd 1000 a2) (h3 : Bd 1000 b1) (h4 : Bd 1000 b2) :
    Calls Try.prog 91 #[.agg #[.int .i64 a1, .int .i64 a2], .agg #[.int .i64 b1, .int .i64 b2]] w fun e w' => e = .returned (.int .i64 (far (a1, a2) (b1, b2))) ∧ Below w.heap.size w w' := by
  have e1 := i64_bd (h1.sub h3) (by omega)
  have e2 := i64_bd (h2.sub h4) (by omega)
  have e3 := i64_bd ((h1.sub h3).mul (h1.sub h3)) (by omega)
  have e4 := i64_bd ((h2.sub h4).mul (h2.sub h4)) (by omega)
  have e5 := i64_bd (((h1.sub h3).mul (h1.sub h3)).add ((h2.sub h4).mul (h2.sub h4))) (by omega)
  unfold far
  dsimp only
  clear h1 h2 h3 h4
  go_enter Try.func91, Try.ntmps91
  go_wp2_with fail
  go_ret
  exact ⟨rfl, ((Below.refl w.heap.size w).alloc (Nat.le_refl _) _).alloc (by simp) _⟩
end Go.Proofs.Ytlehddifcjklgaa
namespace Go.Proofs.Ytlehddifcjklgaa
open Go.RowKit Go.Shelf
attribute [local go_sem] Oper.semAt_some
def pq (p : Pt) : Pt := (p.1 % 18446744073709551616 % 41 - 20, p.2 % 18446744073709551616 % 41 - 20)
theorem pq_raw (q1 q2 : Int) : pq (q1, q2) = ((IntKind.i64.wrap (IntKind.i64.wrap ((IntKind.u64.wrap q1).tmod 41) - 20)), (IntKind.i64.wrap (IntKind.i64.wrap ((IntKind.u64.wrap q2).tmod 41) - 20))) := by
  have t1 : (IntKind.u64.wrap q1).tmod 41 = q1 % 18446744073709551616 % 41 := by rw [u64_wrap]; exact Int.tmod_eq_emod_of_nonneg (by omega)
  have t2 : (IntKind.u64.wrap q2).tmod 41 = q2 % 18446744073709551616 % 41 := by rw [u64_wrap]; exact Int.tmod_eq_emod_of_nonneg (by omega)
  rw [t1, t2, i64_of (q1 % 18446744073709551616 % 41) (by omega) (by omega), i64_of (q2 % 18446744073709551616 % 41) (by omega) (by omega), i64_of (q1 % 18446744073709551616 % 41 - 20) (by omega) (by omega), i64_of (q2 % 18446744073709551616 % 41 - 20) (by omega) (by omega)]
  rfl
theorem pq_in (q : Pt) : inR (pq q) = true := by
  unfold pq; exact inR_true (by omega) (by omega) (by omega) (by omega)
set_option maxRecDepth 100000 in
set_option maxHeartbeats 1000000 in
theorem points_any (ps : List Pt) (a : Option Addr) (c : Nat) (w : World) (hp : PtsA w a ps c) (hl : ps.length ≤ maxLen) (hz : ∀ q ∈ ps, InI q.1 ∧ InI q.2) :
    Calls Try.prog 44 #[.slice a ps.length c] w fun e w' => ∃ v qs, e = .returned v ∧ OwnP w' w.heap.size v qs ∧ (3 ≤ qs.length ∧ qs.length ≤ 12 ∧ ∀ q ∈ qs, inR q = true) ∧ Below w.heap.size w w' := by
  obtain ⟨i0, hi, hz0, hz1, hz2⟩ := info_parts info58
  have HP := Lib.hid hp
  have HZ := Lib.hid hz
  clear hp hz
  have hl63 : (ps.length : Int) ≤ 9223372036854775807 := by unfold maxLen at hl; omega
  go_enter Try.func44, Try.ntmps44
  go_wp2_with fail
  go_loopw [3, 4] (fun v i wr => ∃ k : Nat, k ≤ ps.length ∧ k ≤ 12 ∧ i = .int .i64 (k : Int) ∧ Hid (OwnP wr w.heap.size v ((ps.take k).map pq)) ∧ Hid (Below w.heap.size w wr)) (fun _ i _ => 12 - (intOf i).toNat)
  case atStart => exact ⟨0, by omega, by omega, rfl, Lib.hid (World.ownsRow_nil _ _ _ _), Lib.hid (Below.refl _ _)⟩
  case round =>
    obtain ⟨k, hk, hk12, rfl, HR, HB⟩ := hrel
    by_cases hgo : k < ps.length ∧ k < 12
    · obtain ⟨hlt, h12⟩ := hgo
      have hd : decide ((k : Int) < (ps.length : Int)) = true := decide_eq_true (by omega)
      · have hd2 : decide ((k : Int) < 12) = true := decide_eq_true (by omega)
        obtain ⟨b, o, rfl, hpp, hcc⟩ : ∃ b o, a = some ⟨b, o, none⟩ ∧ PtsAt w b o ps ∧ ps.length ≤ c := by
          rcases HP.out with h | h
          · subst h; simp at hlt
          · exact h
        have hx := hpp.x k hlt
        have hy := hpp.y k hlt
        have hzz := HZ.out _ (List.getElem_mem hlt)
        have HS := Lib.hid (show (ps.take (k + 1)).map pq = (ps.take k).map pq ++ [pq ps[k]] by rw [List.take_succ_eq_append_getElem hlt, List.map_append]; rfl)
        generalize ps[k] = q at *
        obtain ⟨q1, q2⟩ := q
        dsimp only at hx hy hzz
        have hpl := hpp.lt
        clear hpp
        have hpk := pq_raw q1 q2
        rw [hpk] at HS
        clear hpk
        have SS := Lib.hid (show ∀ W, Below w.heap.size w W → W.cell? ⟨b, o + k * 2, none⟩ = some (.int .i64 q1) ∧ W.cell? ⟨b, o + k * 2 + 1, none⟩ = some (.int .i64 q2) from fun W h => ⟨below_at h hpl hx, below_at h hpl hy⟩)
        have BD := Lib.hid (show Below w.heap.size w wr.drew from HB.out.drew)
        have HRD := Lib.hid (own_grow HR.out ((Below.refl wr.heap.size wr).drew))
        clear hx hy hzz
        go_wp2_with fail
        go_region_held3 (fun W => W.cell? ⟨b, o + k * 2, none⟩ = some (.int .i64 q1) ∧ W.cell? ⟨b, o + k * 2 + 1, none⟩ = some (.int .i64 q2))
          (first
            | exact SS.out _ BD.out
            | exact SS.out _ (Below.al BD.out (Nat.le_refl _) _)
            | exact SS.out _ B2.out)
          (first
            | (refine step_append_own rfl _ _ 22 rfl w.heap.size 58 i0 (.agg #[.int .i64 0, .int .i64 0]) 2 16 Try.underlying22 hi hz0 hz1 hz2 rfl (by decide) _ _ _ rfl (World.ownsRow.alloc HRD.out _) _ 1 1 [.int .i64 (IntKind.i64.wrap (IntKind.i64.wrap ((IntKind.u64.wrap q1).tmod 41) - 20)), .int .i64 (IntKind.i64.wrap (IntKind.i64.wrap ((IntKind.u64.wrap q2).tmod 41) - 20))] rfl rfl (cell_two_at _ _ _ _ _ rfl) (by simp [Value.oneCell']) (by rw [List.length_map, List.length_take]; unfold maxLen; omega) (by rw [List.length_map, List.length_take]; omega) (Nat.le_trans BD.out.size (by simp)) ?_; intro v' w2 hown' hgrow hat; have HR2 := Lib.hid hown'; have B2 := Lib.hid (own_belowP HRD.out rfl BD.out (Below.al BD.out (Nat.le_refl _) _) hgrow); clear hown' hgrow hat))
        clear SS BD HRD
        go_wp2_with fail
        go_roundw
        case rel => exact ⟨k + 1, by omega, by omega, rfl, Lib.hid (by rw [HS.out]; have h := HR2.out; unfold OwnP; rw [flat_append, List.length_append]; exact h), B2⟩
        case measure => simp [intOf]; omega
    · have hdd : (decide ((k : Int) < (ps.length : Int)) = false ∧ decide (k < ps.length) = false) ∨ ((decide ((k : Int) < (ps.length : Int)) = true ∧ decide (k < ps.length) = true) ∧ decide ((k : Int) < 12) = false ∧ decide (k < 12) = false) := by
        by_cases h : k < ps.length
        · exact .inr ⟨⟨decide_eq_true (by omega), decide_eq_true h⟩, decide_eq_false (by omega), decide_eq_false (by omega)⟩
        · exact .inl ⟨decide_eq_false (by omega), decide_eq_false h⟩
      have hlen : ((ps.take k).map pq).length = k := by rw [List.length_map, List.length_take]; omega
      have hin : ∀ q ∈ (ps.take k).map pq, inR q = true := fun q hq => by
        obtain ⟨p, _, rfl⟩ := List.mem_map.1 hq
        exact pq_in p
      have HI := Lib.hid (And.intro hlen hin)
      generalize (ps.take k).map pq = qs at *
      clear hgo hlen hin
      obtain ⟨a2, c2, rfl, hop⟩ := HR.out.open
      clear hop
      rcases hdd with ⟨dd, dg⟩ | ⟨⟨dd, dg⟩, de, df⟩
      all_goals
        go_wp2_with fail
        go_loopw [3, 5] (fun v _ wx => ∃ (a2 : Option Addr) (c2 : Nat) (qs : List Pt), v = .slice a2 qs.length c2 ∧ Hid (OwnP wx w.heap.size (.slice a2 qs.length c2) qs) ∧ Hid (qs.length ≤ 12 ∧ ∀ q ∈ qs, inR q = true) ∧ Hid (Below w.heap.size w wx)) (fun v _ _ => 3 - lenOfV v)
        case atStart => exact ⟨a2, c2, qs, rfl, HR, Lib.hid ⟨by rw [HI.out.1]; exact hk12, HI.out.2⟩, HB⟩
        case round =>
          clear HR HI HB
          obtain ⟨a2, c2, qs, rfl, HR, HI, HB⟩ := hrel
          by_cases h3 : qs.length < 3
          · have hL := Lib.hid (show ∀ x y : Int, inR (x, y) = true → (qs ++ [(x, y)]).length ≤ 12 ∧ ∀ q ∈ qs ++ [(x, y)], inR q = true from fun x y h => by
              refine ⟨by rw [List.length_append, List.length_singleton]; omega, fun q hq => ?_⟩
              rcases List.mem_append.1 hq with hq | hq
              · exact HI.out.2 q hq
              · rw [List.mem_singleton.1 hq]; exact h)
            have hA := Lib.hid (show ∀ (W : World) (v : Value) (x y : Int), W.ownsRow w.heap.size 58 2 v (qs.length + 1) (flat qs ++ [.int .i64 x, .int .i64 y]) → OwnP W w.heap.size v (qs ++ [(x, y)]) from fun W v x y h => by
              unfold OwnP; rw [flat_append, List.length_append]; exact h)
            have hll : (qs ++ [((0 : Int), (0 : Int))]).length = qs.length + 1 := by simp
            have hcase : qs.length = 0 ∨ qs.length = 1 ∨ qs.length = 2 := by omega
            obtain ⟨m, hm⟩ : ∃ m, qs.length = m := ⟨_, rfl⟩
            have HM := Lib.hid hm
            rw [hm] at hcase HR
            rw [hm]
            clear hll h3 hm
            rcases hcase with rfl | rfl | rfl
            · go_wp2_with (at_builtin; refine wpList_append_own_at _ rfl _ _ 22 rfl w.heap.size 58 i0 (.agg #[.int .i64 0, .int .i64 0]) 2 16 Try.underlying22 hi hz0 hz1 hz2 rfl (by decide) _ _ _ rfl (World.ownsRow.alloc HR.out _) _ 1 1 [.int .i64 0, .int .i64 0] rfl rfl (cell_two_at _ _ _ _ _ rfl) (by simp [Value.oneCell']) (by have := HM.out; unfold maxLen; omega) (by have := HM.out; omega) (Nat.le_trans HB.out.size (by simp)) ?_; intro v' w2 hown' hgrow hnil hat; have HR2 := Lib.hid (hA.out _ _ _ _ hown'); have B2 := Lib.hid (own_belowP HR.out rfl HB.out (Below.al HB.out (Nat.le_refl _) _) hgrow); clear hown' hgrow hnil hat)
              obtain ⟨a3, c3, rfl, _⟩ := HR2.out.open
              have hl3 : (qs ++ [((0 : Int), (0 : Int))]).length = 1 := by rw [List.length_append, HM.out]; rfl
              refine ⟨⟨a3, c3, _, rfl, HR2, Lib.hid (hL.out 0 0 rfl), B2⟩, ?_⟩
              simp [lenOfV, hl3]
            · go_wp2_with (at_builtin; refine wpList_append_own_at _ rfl _ _ 22 rfl w.heap.size 58 i0 (.agg #[.int .i64 0, .int .i64 0]) 2 16 Try.underlying22 hi hz0 hz1 hz2 rfl (by decide) _ _ _ rfl (World.ownsRow.alloc HR.out _) _ 1 1 [.int .i64 1, .int .i64 1] rfl rfl (cell_two_at _ _ _ _ _ rfl) (by simp [Value.oneCell']) (by have := HM.out; unfold maxLen; omega) (by have := HM.out; omega) (Nat.le_trans HB.out.size (by simp)) ?_; intro v' w2 hown' hgrow hnil hat; have HR2 := Lib.hid (hA.out _ _ _ _ hown'); have B2 := Lib.hid (own_belowP HR.out rfl HB.out (Below.al HB.out (Nat.le_refl _) _) hgrow); clear hown' hgrow hnil hat)
              obtain ⟨a3, c3, rfl, _⟩ := HR2.out.open
              have hl3 : (qs ++ [((1 : Int), (1 : Int))]).length = 2 := by rw [List.length_append, HM.out]; rfl
              refine ⟨⟨a3, c3, _, rfl, HR2, Lib.hid (hL.out 1 1 rfl), B2⟩, ?_⟩
              simp [lenOfV, hl3]
            · go_wp2_with (at_builtin; refine wpList_append_own_at _ rfl _ _ 22 rfl w.heap.size 58 i0 (.agg #[.int .i64 0, .int .i64 0]) 2 16 Try.underlying22 hi hz0 hz1 hz2 rfl (by decide) _ _ _ rfl (World.ownsRow.alloc HR.out _) _ 1 1 [.int .i64 2, .int .i64 4] rfl rfl (cell_two_at _ _ _ _ _ rfl) (by simp [Value.oneCell']) (by have := HM.out; unfold maxLen; omega) (by have := HM.out; omega) (Nat.le_trans HB.out.size (by simp)) ?_; intro v' w2 hown' hgrow hnil hat; have HR2 := Lib.hid (hA.out _ _ _ _ hown'); have B2 := Lib.hid (own_belowP HR.out rfl HB.out (Below.al HB.out (Nat.le_refl _) _) hgrow); clear hown' hgrow hnil hat)
              obtain ⟨a3, c3, rfl, _⟩ := HR2.out.open
              have hl3 : (qs ++ [((2 : Int), (4 : Int))]).length = 3 := by rw [List.length_append, HM.out]; rfl
              refine ⟨⟨a3, c3, _, rfl, HR2, Lib.hid (hL.out 2 4 rfl), B2⟩, ?_⟩
              simp [lenOfV, hl3]
          · have d1 : decide ((qs.length : Int) < 3) = false := decide_eq_false (by omega)
            have d2 : decide (qs.length < 3) = false := decide_eq_false h3
            go_wp2_with fail
            go_ret
            exact ⟨_, qs, rfl, HR.out, ⟨by omega, HI.out.1, HI.out.2⟩, HB.out⟩
end Go.Proofs.Ytlehddifcjklgaa
namespace Go.Proofs.Ytlehddifcjklgaa
open Go.RowKit Go.Shelf
attribute [local go_sem] Oper.semAt_some
theorem row_set_other {W : World} {g g' t : Nat} {vs : List Value} (h : Row W g t vs) (hne : g' ≠ g) (i : Nat) (v : Value) : Row (W.setCell ⟨g', i, none⟩ v) g t vs := by
  unfold Row at *
  exact (heap_setCell_other _ _ _ _ (by simpa using hne.symm)).trans h
theorem ownP_set {W : World} {n₀ A : Nat} {v : Value} {ps : List Pt} (h : OwnP W n₀ v ps) (hne : v.ownBlock ≠ some A) (i : Nat) (x : Value) : OwnP (W.setCell ⟨A, i, none⟩ x) n₀ v ps := by
  refine ⟨h.1, ?_⟩
  rcases h.2 with h2 | ⟨g, cap, cur, rfl, h1, h2, h3⟩
  · exact .inl h2
  · refine .inr ⟨g, cap, cur, rfl, h1, ?_, h3⟩
    have hg : g ≠ A := fun e => hne (by simp [Value.ownBlock, e])
    exact (heap_setCell_other _ _ _ _ (by simpa using hg)).trans h2
theorem befB_trans {q f p : Pt} (h1 : befB q f = true) (h2 : befB p f = false) : befB p q = false := by
  unfold befB at *
  simp only [Bool.or_eq_true, Bool.and_eq_true, decide_eq_true_eq, Bool.or_eq_false_iff, Bool.and_eq_false_iff, decide_eq_false_iff_not] at *
  omega
theorem grow_row {W w2 : World} {v : Value} {g t : Nat} {vs : List Value} (hg : W.grownBy w2 v.ownBlock) (h : Row W g t vs) (hne : v.ownBlock ≠ some g) : Row w2 g t vs := by
  have := hg.block g h.lt (fun e => hne e.symm)
  unfold Row at *
  rw [this]; exact h
set_option maxRecDepth 100000 in
set_option maxHeartbeats 2000000 in
theorem rAround_any (ps : List Pt) (b c : Nat) (w : World) (hp : PtsAt w b 0 ps) (ha : areP ps = true) :
    Calls Try.prog 42 #[.slice (some ⟨b, 0, none⟩) ps.length c] w fun e w' => ∃ v os, e = .returned (.tuple #[v, .bool (decide (3 ≤ os.length))]) ∧ OwnP w' w.heap.size v os ∧ (3 ≤ os.length → Cyc ps os) ∧ os.length ≤ ps.length ∧ Below w.heap.size w w' := by
  obtain ⟨i0, hi, hz0, hz1, hz2⟩ := info_parts info58
  obtain ⟨h3, h12⟩ := areP_len ha
  have HP := Lib.hid hp
  have HBD := Lib.hid (fun p (h : p ∈ ps) => (show Bd 1000 p.1 ∧ Bd 1000 p.2 by
    obtain ⟨i, hi, rfl⟩ := List.getElem_of_mem h
    have := inR_bd ha hi
    exact ⟨this.1.mono (by omega), this.2.mono (by omega)⟩))
  have x0 := hp.x 0 (by omega)
  have y0 := hp.y 0 (by omega)
  rw [show 0 + 0 * 2 = 0 from rfl] at x0
  rw [show 0 + 0 * 2 + 1 = 1 from rfl] at y0
  have hm0 := Lib.hid (List.getElem_mem (show 0 < ps.length by omega))
  have hb0 := Lib.hid (show ∀ p ∈ ps.take 1, befB p (ps[0]'(by omega)) = false from fun p hp => by
    rw [List.take_one] at hp
    have : ps.head? = some ps[0] := by rw [List.head?_eq_getElem?, List.getElem?_eq_getElem (by omega)]
    rw [this] at hp
    simp only [Option.toList_some, List.mem_singleton] at hp
    rw [hp]
    simp [befB])
  generalize ps[0] = f0 at *
  obtain ⟨f01, f02⟩ := f0
  dsimp only at x0 y0
  have dn : decide ((0 : Int) < (ps.length : Int)) = true := decide_eq_true (by omega)
  have dn2 : decide (0 < ps.length) = true := decide_eq_true (by omega)
  clear hp ha
  go_enter Try.func42, Try.ntmps42
  go_wp2_with fail
  obtain ⟨W0, hW0⟩ : ∃ W0, W0 = w.alloc (.cells #[.int .i64 f01, .int .i64 f02] 58) := ⟨_, rfl⟩
  have B0 := Lib.hid (show Below w.heap.size w W0 by rw [hW0]; exact (Below.refl _ _).alloc (Nat.le_refl _) _)
  have r0 := Lib.hid (show Row W0 w.heap.size 58 [.int .i64 f01, .int .i64 f02] by rw [hW0]; exact Row.new _ _ _)
  rw [← hW0]
  clear hW0
  go_loopw [5] (fun i wr => ∃ (k : Nat) (f1 f2 : Int), 1 ≤ k ∧ k ≤ ps.length ∧ i = .int .i64 (k : Int) ∧ Hid (Row wr w.heap.size 58 [.int .i64 f1, .int .i64 f2]) ∧ Hid ((f1, f2) ∈ ps) ∧ Hid (∀ p ∈ ps.take k, befB p (f1, f2) = false) ∧ Hid (Below w.heap.size w wr)) (fun i _ => ps.length - (intOf i).toNat)
  case atStart => exact ⟨1, f01, f02, by omega, by omega, rfl, r0, hm0, hb0, B0⟩
  case round =>
    clear x0 y0 hm0 hb0 r0 B0
    obtain ⟨k, f1, f2, hk1, hk, rfl, HR, HM, HBF, HB⟩ := hrel
    obtain ⟨z0, z1, z2, z3⟩ := two_cells HR.out
    by_cases hlt : k < ps.length
    · have hd : decide ((k : Int) < (ps.length : Int)) = true := decide_eq_true (by omega)
      have hd' : decide (k < ps.length) = true := decide_eq_true (by omega)
      have hx := below_at HB.out HP.out.lt (HP.out.x k hlt)
      have hy := below_at HB.out HP.out.lt (HP.out.y k hlt)
      rw [Nat.zero_add] at hx hy
      have HMK := Lib.hid (List.getElem_mem hlt)
      have HT := Lib.hid (show ps.take (k + 1) = ps.take k ++ [ps[k]] from List.take_succ_eq_append_getElem hlt)
      generalize ps[k] = q at *
      obtain ⟨q1, q2⟩ := q
      dsimp only at hx hy
      have u0 := Kl.cell HR.out.lt z0
      have u1 := Kl.cell HR.out.lt z1
      have hlb : b < wr.heap.size := Nat.lt_of_lt_of_le HP.out.lt HB.out.size
      have u2 := Kl.cell hlb hx
      have u3 := Kl.cell hlb hy
      clear z0 z1 z2 z3 hx hy
      go_wp2_with fail
      refine wp_region_below (by kernel_rfl) (by kernel_rfl) ?_
      repeat (go_big_quiet_step (first | (go_at_call 61; exact Kl.call (Before_any _ _ _ _ _))))
      refine wpQuiet_nil ?_
      rintro _ ⟨wq, rfl⟩
      have HB2 := Lib.hid (Below.andThen HB.out wq.h (Nat.le_refl _))
      have HR2 := Lib.hid (HR.out.below wq.h HR.out.lt)
      have hx := below_at wq.h hlb (u2 ⟨wr, Below.refl _ _⟩)
      have hy := below_at wq.h hlb (u3 ⟨wr, Below.refl _ _⟩)
      generalize wq.W = w5 at *
      clear u0 u1 u2 u3 HB HR
      obtain ⟨z0, z1, z2, z3⟩ := two_cells HR2.out
      cases hbf : befB (q1, q2) (f1, f2)
      · have HNX := Lib.hid (show ∀ p ∈ ps.take (k + 1), befB p (f1, f2) = false from fun p hp => by
          rw [HT.out] at hp
          rcases List.mem_append.1 hp with hp | hp
          · exact HBF.out p hp
          · rw [List.mem_singleton.1 hp]; exact hbf)
        clear hbf
        go_wp2_with fail
        refine ⟨⟨k + 1, f1, f2, by omega, by omega, by simp, HR2, HM, HNX, HB2⟩, ?_⟩
        simp [intOf]; omega
      · have HNX := Lib.hid (show ∀ p ∈ ps.take (k + 1), befB p (q1, q2) = false from fun p hp => by
          rw [HT.out] at hp
          rcases List.mem_append.1 hp with hp | hp
          · exact befB_trans hbf (HBF.out p hp)
          · rw [List.mem_singleton.1 hp]; simp [befB])
        clear hbf
        go_wp2_with fail
        have HR3 := Lib.hid (show Row ((w5.setCell ⟨w.heap.size, 0, none⟩ (.int .i64 q1)).setCell ⟨w.heap.size, 1, none⟩ (.int .i64 q2)) w.heap.size 58 [.int .i64 q1, .int .i64 q2] by
          simpa using (HR2.out.set 0 (.int .i64 q1)).set 1 (.int .i64 q2))
        have HB3 := Lib.hid ((HB2.out.setCell (p := ⟨w.heap.size, 0, none⟩) (Nat.le_refl _) (.int .i64 q1)).setCell (p := ⟨w.heap.size, 1, none⟩) (Nat.le_refl _) (.int .i64 q2))
        refine ⟨⟨k + 1, q1, q2, by omega, by omega, by simp, HR3, HMK, HNX, HB3⟩, ?_⟩
        simp [intOf]; omega
    · have hd : decide ((k : Int) < (ps.length : Int)) = false := decide_eq_false (by omega)
      have hd' : decide (k < ps.length) = false := decide_eq_false (by omega)
      obtain rfl : k = ps.length := by omega
      have HE := Lib.hid (show Ext ps (f1, f2) from first_ext (fun p hp => HBF.out p (by rw [List.take_length]; exact hp)))
      obtain ⟨V1, hV1⟩ : ∃ V1, V1 = wr.alloc (.cells #[.int .i64 f1, .int .i64 f2] 58) := ⟨_, rfl⟩
      obtain ⟨V2, hV2⟩ : ∃ V2, V2 = V1.alloc (.cells #[.int .i64 f1, .int .i64 f2] 58) := ⟨_, rfl⟩
      have A1 : Below wr.heap.size wr V1 := by rw [hV1]; exact (Below.refl _ _).alloc (Nat.le_refl _) _
      have A2 : Below V1.heap.size V1 V2 := by rw [hV2]; exact (Below.refl _ _).alloc (Nat.le_refl _) _
      have s1 : V1.heap.size = wr.heap.size + 1 := by rw [hV1]; simp
      have rF1 : Row V1 w.heap.size 58 [.int .i64 f1, .int .i64 f2] := HR.out.below A1 HR.out.lt
      have rF2 := Lib.hid (rF1.below A2 rF1.lt)
      have rO1 : Row V1 wr.heap.size 58 [.int .i64 f1, .int .i64 f2] := by rw [hV1]; exact Row.new _ _ _
      have rO2 := rO1.below A2 rO1.lt
      have rA2 := Lib.hid (show Row V2 (wr.heap.size + 1) 58 [.int .i64 f1, .int .i64 f2] by
        have := Row.new V1 58 [.int .i64 f1, .int .i64 f2]
        rw [s1] at this; rw [hV2]; exact this)
      have OW := Lib.hid (show OwnP V2 w.heap.size (.slice (some ⟨wr.heap.size, 0, none⟩) 1 1) [(f1, f2)] from
        ⟨rfl, .inr ⟨_, 1, _, rfl, HB.out.size, rO2, Nat.le_refl _, by unfold maxLen; omega, rfl, rfl⟩⟩)
      have WY := Lib.hid (Way.start HM.out HE.out)
      have BB := Lib.hid (Below.andThen (Below.andThen HB.out A1 (Nat.le_refl _)) A2 (Nat.le_refl _))
      obtain ⟨y0, y1, _, _⟩ := two_cells rF1
      rw [hV1] at y0 y1
      have lF := HR.out.lt
      clear z2 z3 A1 A2 rF1 rO1 rO2
      go_wp2_with fail
      rw [← hV1, ← hV2]
      clear z0 z1 y0 y1 hV1 hV2
      obtain ⟨A, hA⟩ : ∃ A, A = wr.heap.size + 1 := ⟨_, rfl⟩
      have hFA := Lib.hid (show w.heap.size < A by rw [hA]; have := HB.out.size; omega)
      have hOA := Lib.hid (show (Value.slice (some ⟨wr.heap.size, 0, none⟩) 1 1).ownBlock ≠ some A ∧ (Value.slice (some ⟨wr.heap.size, 0, none⟩) 1 1).ownBlock ≠ some w.heap.size by
        rw [hA]; simp [Value.ownBlock]; omega)
      rw [← hA] at rA2
      rw [← hA]
      clear hA lF HB HR dn dn2 hd hd' s1
      go_loopw [6, 8, 9, 10] (fun v _ _ _ wx => ∃ (ao : Option Addr) (co : Nat) (os : List Pt) (a1 a2 : Int), v = .slice ao os.length co ∧ Hid (OwnP wx w.heap.size (.slice ao os.length co) os) ∧ Hid ((Value.slice ao os.length co).ownBlock ≠ some A ∧ (Value.slice ao os.length co).ownBlock ≠ some w.heap.size) ∧ Hid (Row wx w.heap.size 58 [.int .i64 f1, .int .i64 f2]) ∧ Hid (Row wx A 58 [.int .i64 a1, .int .i64 a2]) ∧ Hid (Way ps os (f1, f2) (a1, a2)) ∧ Hid (Below w.heap.size w wx)) (fun v _ _ _ _ => ps.length + 1 - lenOfV v)
      case atStart => exact ⟨some ⟨wr.heap.size, 0, none⟩, 1, [(f1, f2)], f1, f2, rfl, OW, hOA, rF2, rA2, WY, BB⟩
      case round =>
        clear OW hOA rF2 rA2 WY BB
        obtain ⟨ao, co, os, a1, a2, rfl, OW, hOA, rF, rA, WY, BB⟩ := hrel
        rename World => wx
        have haS := Lib.hid (show (a1, a2) ∈ ps ∧ Ext ps (a1, a2) by
          rw [← WY.out.last]; exact WY.out.mem _ (ptAt_mem (by have := WY.out.pos; omega)))
        obtain ⟨y0, y1, _, _⟩ := two_cells rA.out
        obtain ⟨U0, hU0⟩ : ∃ U0, U0 = wx.alloc (.cells #[.int .i64 a1, .int .i64 a2] 58) := ⟨_, rfl⟩
        have HU := Lib.hid (show Below wx.heap.size wx U0 by rw [hU0]; exact (Below.refl _ _).alloc (Nat.le_refl _) _)
        have rN := Lib.hid (show Row U0 wx.heap.size 58 [.int .i64 a1, .int .i64 a2] by rw [hU0]; exact Row.new _ _ _)
        go_wp2_with fail
        rw [← hU0]
        clear y0 y1 hU0
        go_loopw [9, 10] (fun i _ wy => ∃ (k : Nat) (n1 n2 : Int), k ≤ ps.length ∧ i = .int .i64 (k : Int) ∧ Hid (Row wy wx.heap.size 58 [.int .i64 n1, .int .i64 n2]) ∧ Hid ((n1, n2) ∈ ps) ∧ Hid ((ps.take k).foldl (pick1 (a1, a2)) (a1, a2) = (n1, n2)) ∧ Hid (Below wx.heap.size wx wy)) (fun i _ _ => ps.length - (intOf i).toNat)
        case atStart => exact ⟨0, a1, a2, by omega, rfl, rN, Lib.hid haS.out.1, Lib.hid rfl, HU⟩
        case round =>
          clear rN HU
          obtain ⟨k, n1, n2, hk, rfl, rN, hnS, hPK, HU⟩ := hrel
          rename World => wy
          by_cases hlt : k < ps.length
          · have hd : decide ((k : Int) < (ps.length : Int)) = true := decide_eq_true (by omega)
            have hd' : decide (k < ps.length) = true := decide_eq_true (by omega)
            have BY := Lib.hid (Below.andThen BB.out HU.out (Nat.le_refl _))
            have hx := below_at BY.out HP.out.lt (HP.out.x k hlt)
            have hy := below_at BY.out HP.out.lt (HP.out.y k hlt)
            rw [Nat.zero_add] at hx hy
            have hpS := Lib.hid (List.getElem_mem hlt)
            have HT := Lib.hid (show (ps.take (k + 1)).foldl (pick1 (a1, a2)) (a1, a2) = pick1 (a1, a2) (n1, n2) ps[k] by
              rw [List.take_succ_eq_append_getElem hlt, List.foldl_append, hPK.out]; rfl)
            generalize ps[k] = q at *
            obtain ⟨p1, p2⟩ := q
            dsimp only at hx hy
            have rAy := Lib.hid (rA.out.below HU.out rA.out.lt)
            have hlb : b < wy.heap.size := Nat.lt_of_lt_of_le HP.out.lt BY.out.size
            have KK := Lib.hid (show ∀ W, Below wy.heap.size wy W → (W.cell? ⟨b, k * 2, none⟩ = some (.int .i64 p1) ∧ W.cell? ⟨b, k * 2 + 1, none⟩ = some (.int .i64 p2)) ∧ Row W A 58 [.int .i64 a1, .int .i64 a2] ∧ Row W wx.heap.size 58 [.int .i64 n1, .int .i64 n2] from fun W h => ⟨⟨below_at h hlb hx, below_at h hlb hy⟩, rAy.out.below h rAy.out.lt, rN.out.below h rN.out.lt⟩)
            clear hx hy
            have CELLS : Hid (∀ W, Below wy.heap.size wy W → ((∀ x : Kl W, x.W.cell? ⟨b, k * 2, none⟩ = some (.int .i64 p1)) ∧ (∀ x : Kl W, x.W.cell? ⟨b, k * 2 + 1, none⟩ = some (.int .i64 p2)) ∧ (∀ x : Kl W, x.W.cell? ⟨A, 0, none⟩ = some (.int .i64 a1)) ∧ (∀ x : Kl W, x.W.cell? ⟨A, 1, none⟩ = some (.int .i64 a2)) ∧ (∀ x : Kl W, x.W.cell? ⟨wx.heap.size, 0, none⟩ = some (.int .i64 n1)) ∧ (∀ x : Kl W, x.W.cell? ⟨wx.heap.size, 1, none⟩ = some (.int .i64 n2)))) := Lib.hid (fun W h => by
              have kk : ∀ x : Kl W, _ := fun x => KK.out x.W (Below.andThen h x.h (Nat.le_refl _))
              exact ⟨fun x => (kk x).1.1, fun x => (kk x).1.2, fun x => (two_cells (kk x).2.1).1, fun x => (two_cells (kk x).2.1).2.1, fun x => (two_cells (kk x).2.2).1, fun x => (two_cells (kk x).2.2).2.1⟩)
            have E1 := fun W => eq58g p1 p2 a1 a2 W
            obtain ⟨u0, u1, u2, u3, u4, u5⟩ := CELLS.out wy (Below.refl _ _)
            by_cases hpa : (p1, p2) = (a1, a2)
            · have dpa : decide (((p1, p2) : Pt) = (a1, a2)) = true := decide_eq_true hpa
              rw [dpa] at E1
              have HNX := Lib.hid (show (ps.take (k + 1)).foldl (pick1 (a1, a2)) (a1, a2) = (n1, n2) by rw [HT.out]; unfold pick1; rw [if_pos hpa])
              clear hpa dpa
              go_wp2_with fail
              refine wp_region_below (by kernel_rfl) (by kernel_rfl) ?_
              repeat (go_big_quiet_step (fail))
              refine wpQuiet_nil ?_
              rintro _ ⟨wq, rfl⟩
              have H5 := Lib.hid wq.h
              generalize wq.W = w5 at *
              clear u0 u1 u2 u3 u4 u5
              go_wp2_with fail
              refine ⟨⟨k + 1, n1, n2, by omega, by simp, Lib.hid (KK.out _ H5.out).2.2, hnS, HNX, Lib.hid (Below.andThen HU.out H5.out (Nat.le_refl _))⟩, ?_⟩
              simp [intOf]; omega
            · have dpa : decide (((p1, p2) : Pt) = (a1, a2)) = false := decide_eq_false hpa
              rw [dpa] at E1
              have HPA := Lib.hid hpa
              clear hpa dpa
              go_wp2_with fail
              refine wp_region_below (by kernel_rfl) (by kernel_rfl) ?_
              repeat (go_big_quiet_step (fail))
              refine wpQuiet_nil ?_
              rintro _ ⟨wq, rfl⟩
              have H5 := Lib.hid wq.h
              generalize wq.W = w5 at *
              clear u0 u1 u2 u3 u4 u5 E1
              obtain ⟨u0, u1, u2, u3, u4, u5⟩ := CELLS.out w5 H5.out
              have bp := HBD.out _ hpS.out
              have ba := HBD.out _ haS.out.1
              have bn := HBD.out _ hnS.out
              have HTU := Lib.hid (fun W => Turn_any a1 a2 n1 n2 p1 p2 W ba.1 ba.2 bn.1 bn.2 bp.1 bp.2)
              have HF := Lib.hid (fun x1 x2 W (h : (x1, x2) ∈ ps) => far_any a1 a2 x1 x2 W ba.1 ba.2 (HBD.out _ h).1 (HBD.out _ h).2)
              clear bp ba bn
              obtain ⟨t, ht⟩ : ∃ t, turn (a1, a2) (n1, n2) (p1, p2) = t := ⟨_, rfl⟩
              rw [ht] at HTU
              go_wp2_with fail
              refine wp_region_below (by kernel_rfl) (by kernel_rfl) ?_
              repeat (go_big_quiet_step (first | (go_at_call 60; exact Kl.call (HTU.out _))))
              refine wpQuiet_nil ?_
              rintro _ ⟨wq, rfl⟩
              have H6 := Lib.hid (Below.andThen H5.out wq.h (Nat.le_refl _))
              generalize wq.W = w6 at *
              clear u0 u1 u2 u3 u4 u5
              obtain ⟨u0, u1, u2, u3, u4, u5⟩ := CELLS.out w6 H6.out
              have E2 := fun W => eq58g n1 n2 a1 a2 W
              have HBT := Lib.hid (show betterB (a1, a2) (n1, n2) (p1, p2) = (decide (((n1, n2) : Pt) = (a1, a2)) || (decide (t < 0) || (decide (t = 0) && decide (far (a1, a2) (n1, n2) < far (a1, a2) (p1, p2))))) by unfold betterB; rw [ht])
              have HPI := Lib.hid (show ∀ v, betterB (a1, a2) (n1, n2) (p1, p2) = v → (ps.take (k + 1)).foldl (pick1 (a1, a2)) (a1, a2) = if v then (p1, p2) else (n1, n2) from fun v h => by rw [HT.out]; unfold pick1; rw [if_neg HPA.out, h])
              clear ht
              by_cases c1 : (n1, n2) = (a1, a2)
              · have d1 : decide (((n1, n2) : Pt) = (a1, a2)) = true := decide_eq_true c1
                rw [d1] at E2
                have HNX := Lib.hid (HPI.out true (by rw [HBT.out, d1]; rfl))
                clear c1 d1 HPI HBT
                go_wp2_with fail
                refine wp_region_below (by kernel_rfl) (by kernel_rfl) ?_
                repeat (go_big_quiet_step (first | (go_at_call 91; exact Kl.call (HF.out _ _ _ (by first | exact hpS.out | exact hnS.out)))))
                refine wpQuiet_nil ?_
                rintro _ ⟨wq, rfl⟩
                have H7 := Lib.hid (Below.andThen H6.out wq.h (Nat.le_refl _))
                generalize wq.W = w7 at *
                clear u0 u1 u2 u3 u4 u5 E2
                obtain ⟨⟨v0, v1⟩, _, rN7⟩ := KK.out w7 H7.out
                obtain ⟨m0, m1, m2, m3⟩ := two_cells rN7
                have HRN := Lib.hid rN7
                clear rN7
                go_wp2_with fail
                have HR3 := Lib.hid (show Row ((w7.setCell ⟨wx.heap.size, 0, none⟩ (.int .i64 p1)).setCell ⟨wx.heap.size, 1, none⟩ (.int .i64 p2)) wx.heap.size 58 [.int .i64 p1, .int .i64 p2] by
                  simpa using (HRN.out.set 0 (.int .i64 p1)).set 1 (.int .i64 p2))
                have HB3 := Lib.hid (((Below.andThen HU.out H7.out (Nat.le_refl _)).setCell (p := ⟨wx.heap.size, 0, none⟩) (Nat.le_refl _) (.int .i64 p1)).setCell (p := ⟨wx.heap.size, 1, none⟩) (Nat.le_refl _) (.int .i64 p2))
                refine ⟨⟨k + 1, p1, p2, by omega, by simp, HR3, hpS, HNX, HB3⟩, ?_⟩
                simp [intOf]; omega
              · have d1 : decide (((n1, n2) : Pt) = (a1, a2)) = false := decide_eq_false c1
                rw [d1] at E2
                rw [d1] at HBT
                clear c1 d1
                by_cases c2 : t < 0
                · have d2 : decide (t < 0) = true := decide_eq_true c2
                  have HNX := Lib.hid (HPI.out true (by rw [HBT.out, d2]; rfl))
                  clear c2 HPI HBT
                  go_wp2_with fail
                  refine wp_region_below (by kernel_rfl) (by kernel_rfl) ?_
                  repeat (go_big_quiet_step (first | (go_at_call 91; exact Kl.call (HF.out _ _ _ (by first | exact hpS.out | exact hnS.out)))))
                  refine wpQuiet_nil ?_
                  rintro _ ⟨wq, rfl⟩
                  have H7 := Lib.hid (Below.andThen H6.out wq.h (Nat.le_refl _))
                  generalize wq.W = w7 at *
                  clear u0 u1 u2 u3 u4 u5 E2
                  obtain ⟨⟨v0, v1⟩, _, rN7⟩ := KK.out w7 H7.out
                  obtain ⟨m0, m1, m2, m3⟩ := two_cells rN7
                  have HRN := Lib.hid rN7
                  clear rN7
                  go_wp2_with fail
                  have HR3 := Lib.hid (show Row ((w7.setCell ⟨wx.heap.size, 0, none⟩ (.int .i64 p1)).setCell ⟨wx.heap.size, 1, none⟩ (.int .i64 p2)) wx.heap.size 58 [.int .i64 p1, .int .i64 p2] by
                    simpa using (HRN.out.set 0 (.int .i64 p1)).set 1 (.int .i64 p2))
                  have HB3 := Lib.hid (((Below.andThen HU.out H7.out (Nat.le_refl _)).setCell (p := ⟨wx.heap.size, 0, none⟩) (Nat.le_refl _) (.int .i64 p1)).setCell (p := ⟨wx.heap.size, 1, none⟩) (Nat.le_refl _) (.int .i64 p2))
                  refine ⟨⟨k + 1, p1, p2, by omega, by simp, HR3, hpS, HNX, HB3⟩, ?_⟩
                  simp [intOf]; omega
                · have d2 : decide (t < 0) = false := decide_eq_false c2
                  by_cases c3 : t = 0
                  · have d3 : (t == 0) = true := by simp [c3]
                    have d3' : decide (t = 0) = true := decide_eq_true c3
                    by_cases c4 : far (a1, a2) (n1, n2) < far (a1, a2) (p1, p2)
                    · have d4 : decide (far (a1, a2) (n1, n2) < far (a1, a2) (p1, p2)) = true := decide_eq_true c4
                      have HNX := Lib.hid (HPI.out true (by rw [HBT.out, d2, d3', d4]; rfl))
                      clear c2 c3 c4 HPI HBT
                      go_wp2_with fail
                      refine wp_region_below (by kernel_rfl) (by kernel_rfl) ?_
                      repeat (go_big_quiet_step (first | (go_at_call 91; exact Kl.call (HF.out _ _ _ (by first | exact hpS.out | exact hnS.out)))))
                      refine wpQuiet_nil ?_
                      rintro _ ⟨wq, rfl⟩
                      have H7 := Lib.hid (Below.andThen H6.out wq.h (Nat.le_refl _))
                      generalize wq.W = w7 at *
                      clear u0 u1 u2 u3 u4 u5 E2
                      obtain ⟨⟨v0, v1⟩, _, rN7⟩ := KK.out w7 H7.out
                      obtain ⟨m0, m1, m2, m3⟩ := two_cells rN7
                      have HRN := Lib.hid rN7
                      clear rN7
                      go_wp2_with fail
                      have HR3 := Lib.hid (show Row ((w7.setCell ⟨wx.heap.size, 0, none⟩ (.int .i64 p1)).setCell ⟨wx.heap.size, 1, none⟩ (.int .i64 p2)) wx.heap.size 58 [.int .i64 p1, .int .i64 p2] by
                        simpa using (HRN.out.set 0 (.int .i64 p1)).set 1 (.int .i64 p2))
                      have HB3 := Lib.hid (((Below.andThen HU.out H7.out (Nat.le_refl _)).setCell (p := ⟨wx.heap.size, 0, none⟩) (Nat.le_refl _) (.int .i64 p1)).setCell (p := ⟨wx.heap.size, 1, none⟩) (Nat.le_refl _) (.int .i64 p2))
                      refine ⟨⟨k + 1, p1, p2, by omega, by simp, HR3, hpS, HNX, HB3⟩, ?_⟩
                      simp [intOf]; omega
                    · have d4 : decide (far (a1, a2) (n1, n2) < far (a1, a2) (p1, p2)) = false := decide_eq_false c4
                      have HNX := Lib.hid (HPI.out false (by rw [HBT.out, d2, d3', d4]; rfl))
                      clear c2 c3 c4 HPI HBT
                      go_wp2_with fail
                      refine wp_region_below (by kernel_rfl) (by kernel_rfl) ?_
                      repeat (go_big_quiet_step (first | (go_at_call 91; exact Kl.call (HF.out _ _ _ (by first | exact hpS.out | exact hnS.out)))))
                      refine wpQuiet_nil ?_
                      rintro _ ⟨wq, rfl⟩
                      have H7 := Lib.hid (Below.andThen H6.out wq.h (Nat.le_refl _))
                      generalize wq.W = w7 at *
                      clear u0 u1 u2 u3 u4 u5 E2
                      go_wp2_with fail
                      refine ⟨⟨k + 1, n1, n2, by omega, by simp, Lib.hid (KK.out _ H7.out).2.2, hnS, HNX, Lib.hid (Below.andThen HU.out H7.out (Nat.le_refl _))⟩, ?_⟩
                      simp [intOf]; omega
                  · have d3 : (t == 0) = false := by simp [c3]
                    have d3' : decide (t = 0) = false := decide_eq_false c3
                    have HNX := Lib.hid (HPI.out false (by rw [HBT.out, d2, d3']; rfl))
                    clear c2 c3 HPI HBT
                    go_wp2_with fail
                    refine wp_region_below (by kernel_rfl) (by kernel_rfl) ?_
                    repeat (go_big_quiet_step (first | (go_at_call 91; exact Kl.call (HF.out _ _ _ (by first | exact hpS.out | exact hnS.out)))))
                    refine wpQuiet_nil ?_
                    rintro _ ⟨wq, rfl⟩
                    have H7 := Lib.hid (Below.andThen H6.out wq.h (Nat.le_refl _))
                    generalize wq.W = w7 at *
                    clear u0 u1 u2 u3 u4 u5 E2
                    go_wp2_with fail
                    refine ⟨⟨k + 1, n1, n2, by omega, by simp, Lib.hid (KK.out _ H7.out).2.2, hnS, HNX, Lib.hid (Below.andThen HU.out H7.out (Nat.le_refl _))⟩, ?_⟩
                    simp [intOf]; omega
          · have hd : decide ((k : Int) < (ps.length : Int)) = false := decide_eq_false (by omega)
            have hd' : decide (k < ps.length) = false := decide_eq_false (by omega)
            obtain rfl : k = ps.length := by omega
            have HPICK := Lib.hid (show pick ps (a1, a2) = (n1, n2) by have h := hPK.out; rw [List.take_length] at h; exact h)
            have HBEST := Lib.hid (show (n1, n2) ≠ (a1, a2) → Best ps (a1, a2) (n1, n2) from fun h => by
              have := pick_best haS.out.2 ⟨_, hnS.out, h⟩
              rw [HPICK.out] at this; exact this)
            have HALL := Lib.hid (show (n1, n2) = (a1, a2) → (f1, f2) = (a1, a2) from fun h => by
              rcases Classical.em ((f1, f2) = (a1, a2)) with h2 | h2
              · exact h2
              · have := pick_best haS.out.2 ⟨_, HM.out, h2⟩
                rw [HPICK.out] at this
                exact absurd h this.2.1)
            have LEN := Lib.hid (nodup_le WY.out.nodup (fun x hx => (WY.out.mem x hx).1))
            have BY := Lib.hid (Below.andThen BB.out HU.out (Nat.le_refl _))
            have rAy := Lib.hid (rA.out.below HU.out rA.out.lt)
            have rFy := Lib.hid (rF.out.below HU.out rF.out.lt)
            obtain ⟨y0, y1, _, _⟩ := two_cells rAy.out
            obtain ⟨y2, y3, _, _⟩ := two_cells rFy.out
            obtain ⟨y4, y5, _, _⟩ := two_cells rN.out
            have E1 := fun W => eq58g n1 n2 f1 f2 W
            have E2 := fun W => eq58g n1 n2 a1 a2 W
            by_cases c1 : (n1, n2) = (f1, f2)
            · have d1 : decide (((n1, n2) : Pt) = (f1, f2)) = true := decide_eq_true c1
              rw [d1] at E1
              have CYC := Lib.hid (show 3 ≤ os.length → Cyc ps os from fun h3 => by
                by_cases c2 : (n1, n2) = (a1, a2)
                · exfalso
                  have e1 : ptAt os 0 = ptAt os (os.length - 1) := by rw [WY.out.first, WY.out.last]; exact HALL.out c2
                  have := nodup_idx WY.out.nodup (by omega) (by omega) e1
                  omega
                · have := HBEST.out c2
                  rw [c1] at this
                  exact WY.out.close this)
              clear c1 d1
              have OW5 := Lib.hid (show OwnP wy w.heap.size (.slice ao os.length co) os from own_grow OW.out HU.out)
              by_cases g3 : 3 ≤ os.length
              · have q1 : decide (3 ≤ (os.length : Int)) = true := decide_eq_true (by omega)
                have q2 : decide (3 ≤ os.length) = true := decide_eq_true g3
                have Q2 := Lib.hid q2
                clear g3
                go_wp2_with fail
                exact bodyPost_ret (v := .tuple #[.slice ao os.length co, .bool true]) (by simp [results, Try.results42, go_sem]) rfl ⟨_, os, by rw [Q2.out], OW5.out, CYC.out, LEN.out, BY.out⟩
              · have q1 : decide (3 ≤ (os.length : Int)) = false := decide_eq_false (by omega)
                have q2 : decide (3 ≤ os.length) = false := decide_eq_false g3
                have Q2 := Lib.hid q2
                clear g3
                go_wp2_with fail
                exact bodyPost_ret (v := .tuple #[.slice ao os.length co, .bool false]) (by simp [results, Try.results42, go_sem]) rfl ⟨_, os, by rw [Q2.out], OW5.out, CYC.out, LEN.out, BY.out⟩
            · have d1 : decide (((n1, n2) : Pt) = (f1, f2)) = false := decide_eq_false c1
              rw [d1] at E1
              by_cases c2 : (n1, n2) = (a1, a2)
              · have d2 : decide (((n1, n2) : Pt) = (a1, a2)) = true := decide_eq_true c2
                rw [d2] at E2
                have CYC := Lib.hid (show 3 ≤ os.length → Cyc ps os from fun h3 => by
                  exact absurd (c2.trans (HALL.out c2).symm) c1)
                clear c1 d1 c2 d2
                have OW5 := Lib.hid (show OwnP wy w.heap.size (.slice ao os.length co) os from own_grow OW.out HU.out)
                by_cases g3 : 3 ≤ os.length
                · have q1 : decide (3 ≤ (os.length : Int)) = true := decide_eq_true (by omega)
                  have q2 : decide (3 ≤ os.length) = true := decide_eq_true g3
                  have Q2 := Lib.hid q2
                  clear g3
                  go_wp2_with fail
                  exact bodyPost_ret (v := .tuple #[.slice ao os.length co, .bool true]) (by simp [results, Try.results42, go_sem]) rfl ⟨_, os, by rw [Q2.out], OW5.out, CYC.out, LEN.out, BY.out⟩
                · have q1 : decide (3 ≤ (os.length : Int)) = false := decide_eq_false (by omega)
                  have q2 : decide (3 ≤ os.length) = false := decide_eq_false g3
                  have Q2 := Lib.hid q2
                  clear g3
                  go_wp2_with fail
                  exact bodyPost_ret (v := .tuple #[.slice ao os.length co, .bool false]) (by simp [results, Try.results42, go_sem]) rfl ⟨_, os, by rw [Q2.out], OW5.out, CYC.out, LEN.out, BY.out⟩
              · have d2 : decide (((n1, n2) : Pt) = (a1, a2)) = false := decide_eq_false c2
                rw [d2] at E2
                have WN := Lib.hid (WY.out.step (HBEST.out c2) c1)
                have LEN2 := Lib.hid (nodup_le WN.out.nodup (fun x hx => (WN.out.mem x hx).1))
                clear c1 d1 c2 d2
                have OWy := Lib.hid (show OwnP wy w.heap.size (.slice ao os.length co) os from own_grow OW.out HU.out)
                have hNO := Lib.hid (show (Value.slice ao os.length co).ownBlock ≠ some wx.heap.size from fun e => by
                  have := own_lt OW.out _ e; omega)
                have LL := Lib.hid (show os.length + 1 ≤ 13 by have := LEN.out; omega)
                go_wp2_with (at_builtin; refine wpList_append_own_at _ rfl _ _ 22 rfl w.heap.size 58 i0 (.agg #[.int .i64 0, .int .i64 0]) 2 16 Try.underlying22 hi hz0 hz1 hz2 rfl (by decide) _ _ _ rfl (World.ownsRow.alloc OWy.out _) _ 1 1 [.int .i64 n1, .int .i64 n2] rfl rfl (cell_two_at _ _ _ _ _ rfl) (by simp [Value.oneCell']) (by have := LL.out; unfold maxLen; omega) (by have := LL.out; omega) (Nat.le_trans BY.out.size (by simp)) ?_; intro v' w2 hown' hgrow hnil hat; have HR2 := Lib.hid (show OwnP w2 w.heap.size v' (os ++ [(n1, n2)]) by unfold OwnP; rw [flat_append, List.length_append]; exact hown'); have B2 := Lib.hid (own_belowP OWy.out rfl BY.out (Below.al BY.out (Nat.le_refl _) _) hgrow); have K1 := Lib.hid (grow_row hgrow (rN.out.below ((Below.refl _ _).alloc (Nat.le_refl _) _) rN.out.lt) hNO.out); have K2 := Lib.hid (grow_row hgrow (rAy.out.below ((Below.refl _ _).alloc (Nat.le_refl _) _) rAy.out.lt) hOA.out.1); have K3 := Lib.hid (grow_row hgrow (rFy.out.below ((Below.refl _ _).alloc (Nat.le_refl _) _) rFy.out.lt) hOA.out.2); have HAT := Lib.hid hat; obtain ⟨m0, m1, _, _⟩ := two_cells K1.out; obtain ⟨m2, m3, m4, m5⟩ := two_cells K2.out; clear hown' hgrow hnil hat)
                have hv' : v'.ownBlock ≠ some A ∧ v'.ownBlock ≠ some w.heap.size := by
                  have hs : (wy.alloc (.cells #[.int .i64 n1, .int .i64 n2] 58)).heap.size = wy.heap.size + 1 := by simp
                  have l1 := rAy.out.lt
                  have l2 := rFy.out.lt
                  rcases HAT.out with h | h
                  · rw [h]; exact hOA.out
                  · rw [h, hs]
                    constructor
                    · intro e; simp only [Option.some.injEq] at e; omega
                    · intro e; simp only [Option.some.injEq] at e; omega
                obtain ⟨a3, c3, rfl, hop⟩ := HR2.out.open
                clear hop
                have W1 := ownP_set (ownP_set HR2.out hv'.1 0 (.int .i64 n1)) hv'.1 1 (.int .i64 n2)
                have R1 := row_set_other (row_set_other K3.out (g' := A) (by have := hFA.out; omega) 0 (.int .i64 n1)) (g' := A) (by have := hFA.out; omega) 1 (.int .i64 n2)
                have R2 : Row ((w2.setCell ⟨A, 0, none⟩ (.int .i64 n1)).setCell ⟨A, 1, none⟩ (.int .i64 n2)) A 58 [.int .i64 n1, .int .i64 n2] := by
                  simpa using (K2.out.set 0 (.int .i64 n1)).set 1 (.int .i64 n2)
                have B3 := (B2.out.setCell (p := ⟨A, 0, none⟩) (by have := hFA.out; dsimp only; omega) (.int .i64 n1)).setCell (p := ⟨A, 1, none⟩) (by have := hFA.out; dsimp only; omega) (.int .i64 n2)
                refine ⟨⟨a3, c3, os ++ [(n1, n2)], n1, n2, rfl, Lib.hid W1, Lib.hid hv', Lib.hid R1, Lib.hid R2, WN, Lib.hid B3⟩, ?_⟩
                have := LEN2.out
                simp only [lenOfV, List.length_append, List.length_singleton] at this ⊢
                omega
end Go.Proofs.Ytlehddifcjklgaa
namespace Go.Proofs.Ytlehddifcjklgaa
open Go.RowKit Go.Shelf
attribute [local go_sem] Oper.semAt_some
set_option maxRecDepth 100000 in
set_option maxHeartbeats 2000000 in
theorem tame_any (ps : List Pt) (a : Option Addr) (c : Nat) (fr : Int) (w : World) (hp : PtsA w a ps c) (hl : ps.length ≤ maxLen) (hz : ∀ q ∈ ps, InI q.1 ∧ InI q.2) :
    Calls Try.prog 31 #[.slice a ps.length c, .int .i64 fr] w fun e w' => ∃ v hs, e = .returned v ∧ OwnP w' w.heap.size v hs ∧ chk hs = true ∧ Below w.heap.size w w' := by
  obtain ⟨i0, hi, hz0, hz1, hz2⟩ := info_parts info58
  have hP := points_any ps a c w hp hl hz
  clear hp hl hz
  go_enter Try.func31, Try.ntmps31
  go_wp2_with fail
  refine hP.mono ?_
  rintro e w1 ⟨v, qs, rfl, ho, ⟨h3, h12, hin⟩, hb⟩
  have ha : areP qs = true := by
    unfold areP; simp only [Bool.and_eq_true, decide_eq_true_eq, List.all_eq_true]; exact ⟨⟨h3, h12⟩, hin⟩
  obtain ⟨a2, c2, rfl, hop⟩ := ho.open
  obtain ⟨g, rfl, hg0, hpt, hcc⟩ : ∃ g, a2 = some ⟨g, 0, none⟩ ∧ w.heap.size ≤ g ∧ PtsAt w1 g 0 qs ∧ qs.length ≤ c2 := by
    rcases hop with ⟨_, _, h⟩ | ⟨g, h1, h2, h3, h4⟩
    · subst h; simp at h3
    · exact ⟨g, h2, h1, h3, h4⟩
  have T1 := Lib.hid hb
  have HA := Lib.hid (rAround_any qs g c2 w1 hpt ha)
  have HIN := Lib.hid hin
  clear hP ho hb hop hpt hin ha
  go_wp2_with fail
  refine HA.out.mono ?_
  rintro e w2 ⟨v, os, rfl, ho, hcyc, hol, hb⟩
  have T2 := Lib.hid (Below.andThen T1.out hb (Nat.le_refl _))
  obtain ⟨a3, c3, rfl, hop⟩ := ho.open
  clear HA
  by_cases ho3 : 3 ≤ os.length
  · have q1 : decide (3 ≤ os.length) = true := decide_eq_true ho3
    have CY := Lib.hid (hcyc ho3)
    obtain ⟨h, rfl, hh0, hpt, hcc3⟩ : ∃ g, a3 = some ⟨g, 0, none⟩ ∧ w1.heap.size ≤ g ∧ PtsAt w2 g 0 os ∧ os.length ≤ c3 := by
      rcases hop with ⟨_, _, h⟩ | ⟨g, h1, h2, h3, h4⟩
      · subst h; simp at ho3
      · exact ⟨g, h2, h1, h3, h4⟩
    have HPT := Lib.hid hpt
    obtain ⟨k, hk, hk1, hk2⟩ : ∃ k : Nat, k < os.length ∧ wrap64 ((IntKind.u64.wrap fr).tmod (os.length : Int)) = (k : Int) ∧ IntKind.i64.wrap ((IntKind.u64.wrap fr).tmod (os.length : Int)) = (k : Int) := by
      have e2 : (IntKind.u64.wrap fr).tmod (os.length : Int) = IntKind.u64.wrap fr % (os.length : Int) := Int.tmod_eq_emod_of_nonneg (by rw [u64_wrap]; omega)
      have h1 := Int.emod_nonneg (IntKind.u64.wrap fr) (show (os.length : Int) ≠ 0 by omega)
      have h2 := Int.emod_lt_of_pos (IntKind.u64.wrap fr) (show (0 : Int) < os.length by omega)
      refine ⟨(IntKind.u64.wrap fr % (os.length : Int)).toNat, by omega, ?_, ?_⟩
      · rw [e2, w64_of (by omega) (by omega)]; omega
      · rw [e2, i64_of _ (by omega) (by omega)]; omega
    have s1 : ∀ w, (Instr.slice 22 (.slice (some ⟨h, 0, none⟩) os.length c3) (some (.int .i64 (k : Int))) none none).run Try.prog w = .ok (.slice (some ⟨h, k * 2, none⟩) (os.length - k) (c3 - k)) w := fun w => slice_from2 h _ c3 k hk hcc3 w
    have s2 : ∀ w, (Instr.slice 22 (.slice (some ⟨h, 0, none⟩) os.length c3) none (some (.int .i64 (k : Int))) none).run Try.prog w = .ok (.slice (some ⟨h, 0, none⟩) k c3) w := fun w => slice_upto _ _ c3 k (by omega) w
    have hn1 := Lib.hid (show ∀ j u, (flat (os.drop k))[j]? = some u → w2.cell? ((⟨h, k * 2, none⟩ : Addr).add j) = some u by
      have := pts_cells (hpt.drop k) (os.drop k).length
      rwa [List.take_length] at this)
    have hn2 := Lib.hid (fun W (hW : Below w2.heap.size w2 W) => pts_cells (hpt.grow hW) k)
    have q2 : ¬ ((os.length : Int) = 0) := by omega
    have hl12 : os.length ≤ 12 := by omega
    have HC := Lib.hid (show chk (os.drop k ++ os.take k) = true from (CY.out.rot (by omega) (by omega)).chk (by rw [rot_len (by omega)]; omega) (by rw [rot_len (by omega)]; omega) HIN.out)
    have L1 := Lib.hid (show (os.drop k).length = os.length - k from List.length_drop ..)
    have L2 := Lib.hid (show (os.take k).length = k by rw [List.length_take]; omega)
    clear hcyc hop hpt ho CY
    go_wp2_with (first | (at_builtin; refine wpList_append_own_at _ rfl _ _ 22 rfl w.heap.size 58 i0 (.agg #[.int .i64 0, .int .i64 0]) 2 16 Try.underlying22 hi hz0 hz1 hz2 rfl (by decide) (.slice none 0 0) _ _ rfl (World.ownsRow_nil _ _ _ _) ⟨h, k * 2, none⟩ (os.length - k) (c3 - k) (flat (os.drop k)) rfl (by rw [flat_length, L1.out]) hn1.out (flat_one _) (by unfold maxLen; omega) (by omega) T2.out.size ?_; intro v1 w3 hown' hgrow hnil hat; have HR1 := Lib.hid hown'; have BG : Hid (Below w2.heap.size w2 w3) := Lib.hid ((Below.refl w2.heap.size w2).grown (show w2.grownBy w3 none from hgrow) (Nat.le_refl _) (fun r e => by cases e)); clear hown' hgrow hnil hat) | (at_builtin; refine wpList_append_own_at _ rfl _ _ 22 rfl w.heap.size 58 i0 (.agg #[.int .i64 0, .int .i64 0]) 2 16 Try.underlying22 hi hz0 hz1 hz2 rfl (by decide) _ _ _ rfl HR1.out ⟨h, 0, none⟩ k c3 (flat (os.take k)) rfl (by rw [flat_length, L2.out]) (hn2.out _ BG.out) (flat_one _) (by unfold maxLen; omega) (by omega) (Nat.le_trans T2.out.size BG.out.size) ?_; intro v2 w4 hown' hgrow hnil hat; have HR2 := Lib.hid hown'; have B4 := Lib.hid (own_belowP HR1.out rfl (Below.andThen T2.out BG.out (Nat.le_refl _)) (Below.andThen T2.out BG.out (Nat.le_refl _)) hgrow); clear hown' hgrow hnil hat))
    go_ret
    refine ⟨_, os.drop k ++ os.take k, rfl, ?_, HC.out, B4.out⟩
    have h := HR2.out
    rw [List.nil_append, Nat.zero_add] at h
    unfold OwnP
    rw [flat_append, List.length_append, L1.out, L2.out]
    exact h
  · have q1 : decide (3 ≤ os.length) = false := decide_eq_false ho3
    clear hcyc hop ho
    go_wp2_with fail
    go_ret
    refine ⟨_, thinP, rfl, ?_, aw_chk2, Below.al T2.out (Nat.le_refl _) _⟩
    exact ⟨rfl, .inr ⟨_, 3, _, rfl, T2.out.size, (Row.new w2 58 (flat thinP)), Nat.le_refl _, by unfold maxLen; omega, rfl, rfl⟩⟩
end Go.Proofs.Ytlehddifcjklgaa
namespace Go.Proofs.Ytlehddifcjklgaa
open Go.RowKit Go.Shelf
attribute [local go_sem] Oper.semAt_some
def psum (f : Nat → Int) (k : Nat) : Int := ((List.range k).map f).sum
theorem psum_succ (f : Nat → Int) (k : Nat) : psum f (k + 1) = psum f k + f k := by
  unfold psum; rw [List.range_succ, List.map_append, List.sum_append]; simp
theorem psum_bd {f : Nat → Int} {n : Nat} {m : Int} (hm : 0 ≤ m) (h : ∀ i, i < n → Bd m (f i)) : ∀ k, k ≤ n → Bd (m * k) (psum f k)
  | 0, _ => by simp [psum, Bd]
  | k + 1, hk => by
    rw [psum_succ]
    have h1 := psum_bd hm h k (by omega)
    have h2 := h k (by omega)
    have := h1.add h2
    rw [Int.natCast_add, Int.mul_add]
    simpa using this
/-- two rows laid one behind the other, and a draw -/
theorem two_rows {W : World} (a b c d : Int) (t : TypeId) : ∃ V, V = ((W.alloc (.cells #[.int .i64 a, .int .i64 b] t)).alloc (.cells #[.int .i64 c, .int .i64 d] t)).drew ∧ (V.cell? ⟨W.heap.size, 0, none⟩ = some (.int .i64 a) ∧ V.cell? ⟨W.heap.size, 1, none⟩ = some (.int .i64 b) ∧ V.cell? ⟨W.heap.size + 1, 0, none⟩ = some (.int .i64 c) ∧ V.cell? ⟨W.heap.size + 1, 1, none⟩ = some (.int .i64 d)) ∧ Below W.heap.size W V := by
  refine ⟨_, rfl, ⟨?_, ?_, ?_, ?_⟩, (((Below.refl _ _).alloc (Nat.le_refl _) _).alloc (by simp) _).drew⟩
  · show ((W.alloc _).alloc _).cell? _ = _; simp [cell_al]
  · show ((W.alloc _).alloc _).cell? _ = _; simp [cell_al]
  · show ((W.alloc _).alloc _).cell? _ = _; simp [cell_al]
  · show ((W.alloc _).alloc _).cell? _ = _; simp [cell_al]
set_option maxRecDepth 100000 in
set_option maxHeartbeats 2000000 in
theorem rArea_any (ps : List Pt) (b c : Nat) (w : World) (hp : PtsAt w b 0 ps) (ha : areP ps = true) :
    Calls Try.prog 32 #[.slice (some ⟨b, 0, none⟩) ps.length c] w fun e w' => e = .returned (.int .i64 (area ps)) ∧ Below w.heap.size w w' := by
  obtain ⟨h3, h12⟩ := areP_len ha
  have HP := Lib.hid hp
  have HA := Lib.hid ha
  have HBS := Lib.hid (fun k (hk : k ≤ ps.length) => psum_bd (f := crsAt ps) (n := ps.length) (m := 1000) (by omega) (fun i hi => by
    have b1 := ptAt_bd ha hi
    have b2 := nx_bd ha hi
    exact ((b1.1.mul b2.2).add (b1.2.neg.mul b2.1)).mono (by omega)) k hk)
  clear hp ha
  go_enter Try.func32, Try.ntmps32
  go_wp2_with fail
  go_loopw [3, 4] (fun s i wr => ∃ k : Nat, k ≤ ps.length ∧ i = .int .i64 (k : Int) ∧ Hid (s = .int .i64 (psum (crsAt ps) k)) ∧ Hid (Below w.heap.size w wr)) (fun _ i _ => ps.length - (intOf i).toNat)
  case atStart => exact ⟨0, by omega, rfl, Lib.hid rfl, Lib.hid (Below.refl _ _)⟩
  case round =>
    obtain ⟨k, hk, rfl, HS, HB⟩ := hrel
    have hs := HS.out
    by_cases hlt : k < ps.length
    · have hd : decide ((k : Int) < (ps.length : Int)) = true := decide_eq_true (by omega)
      have hd' : decide (k < ps.length) = true := decide_eq_true hlt
      obtain ⟨j, hj⟩ : ∃ j, (k + 1) % ps.length = j := ⟨_, rfl⟩
      have hjl : j < ps.length := by rw [← hj]; exact Nat.mod_lt _ (by omega)
      have ej2 : ((k : Int) + 1) % (ps.length : Int) = (j : Int) := by rw [← hj, Int.natCast_emod]; rfl
      have ej1 : ((k : Int) + 1).tmod (ps.length : Int) = (j : Int) := by
        rw [Int.tmod_eq_emod_of_nonneg (by omega)]; exact ej2
      have z1 : ¬ ((ps.length : Int) = 0) := by omega
      have z2 : ¬ (ps.length = 0) := by omega
      have z3 : ¬ (ps = []) := fun h => by subst h; simp at hlt
      have i1 : (0 : Int) ≤ (k : Int) := by omega
      have i2 : (0 : Int) ≤ (j : Int) := by omega
      have i3 : (j : Int) < (ps.length : Int) := by omega
      have i4 : (k : Int) < (ps.length : Int) := by omega
      have w1 : IntKind.i64.wrap ((k : Int) + 1) = (k : Int) + 1 := i64_of _ (by omega) (by omega)
      have hb1 := ptAt_bd HA.out hlt
      have hb2 := ptAt_bd HA.out hjl
      have hbs := HBS.out k (by omega)
      have hxw := HP.out.x k hlt
      have hyw := HP.out.y k hlt
      have hx2w := HP.out.x j hjl
      have hy2w := HP.out.y j hjl
      rw [Nat.zero_add] at hxw hyw hx2w hy2w
      have hsn : psum (crsAt ps) (k + 1) = psum (crsAt ps) k + crs (ptAt ps k) (ptAt ps j) := by rw [psum_succ]; unfold crsAt nx; rw [hj]
      rw [← ptAt_lt hlt] at hxw hyw
      rw [← ptAt_lt hjl] at hx2w hy2w
      generalize ptAt ps k = p at *
      generalize ptAt ps j = q at *
      obtain ⟨p1, p2⟩ := p
      obtain ⟨q1, q2⟩ := q
      dsimp only at hxw hyw hx2w hy2w hb1 hb2
      generalize psum (crsAt ps) k = S at *
      subst hs
      have hk12 : k ≤ 12 := by omega
      have bS : Bd 12000 S := hbs.mono (by omega)
      have m1 := hb1.1.mul hb2.2
      have m2 := hb1.2.mul hb2.1
      have e1 : IntKind.i64.wrap (p1 * q2) = p1 * q2 := i64_bd m1 (by omega)
      have e2 : IntKind.i64.wrap (p2 * q1) = p2 * q1 := i64_bd m2 (by omega)
      have e3 : IntKind.i64.wrap (S + p1 * q2) = S + p1 * q2 := i64_bd (bS.add m1) (by omega)
      have e4 : IntKind.i64.wrap (S + p1 * q2 - p2 * q1) = S + p1 * q2 - p2 * q1 := i64_bd ((bS.add m1).sub m2) (by omega)
      have hfin : S + p1 * q2 - p2 * q1 = psum (crsAt ps) (k + 1) := by rw [hsn]; unfold crs; dsimp only; rw [Int.neg_mul]; omega
      have HFIN := Lib.hid hfin
      clear hb1 hb2 hbs hsn hj m1 m2 bS hfin HS
      have hlb : b < w.heap.size := HP.out.lt
      have SS := Lib.hid (show ∀ W, Below w.heap.size w W → W.cell? ⟨b, k * 2, none⟩ = some (.int .i64 p1) ∧ W.cell? ⟨b, k * 2 + 1, none⟩ = some (.int .i64 p2) ∧ W.cell? ⟨b, j * 2, none⟩ = some (.int .i64 q1) ∧ W.cell? ⟨b, j * 2 + 1, none⟩ = some (.int .i64 q2) from fun W h => ⟨below_at h hlb hxw, below_at h hlb hyw, below_at h hlb hx2w, below_at h hlb hy2w⟩)
      have BD := Lib.hid (show Below w.heap.size w wr.drew from HB.out.drew)
      have hle := Lib.hid (show w.heap.size ≤ wr.heap.size from HB.out.size)
      clear hxw hyw hx2w hy2w hd'
      go_wp2_with fail
      go_region_held3 (fun W => W.cell? ⟨b, k * 2, none⟩ = some (.int .i64 p1) ∧ W.cell? ⟨b, k * 2 + 1, none⟩ = some (.int .i64 p2) ∧ W.cell? ⟨b, j * 2, none⟩ = some (.int .i64 q1) ∧ W.cell? ⟨b, j * 2 + 1, none⟩ = some (.int .i64 q2))
        ((refine SS.out _ ?_; repeat (first | exact BD.out | exact HB.out | (refine Below.drew ?_) | (refine Below.al ?_ (Nat.le_refl _) _) | (refine Below.setCell ?_ (by have := hle.out; simp; omega) _))))
        (first | fail)
      · obtain ⟨V, hV, ⟨c0, c1, c2, c3⟩, hbv⟩ := two_rows (W := wr) p1 p2 q1 q2 58
        rw [← hV]
        have T2 := Lib.hid (Below.andThen HB.out hbv (Nat.le_refl _))
        clear hV hbv SS BD
        go_wp2_with fail
        refine ⟨⟨k + 1, by omega, by simp, Lib.hid (by rw [HFIN.out]), T2⟩, ?_⟩
        simp [intOf]; omega
      · obtain ⟨V, hV, ⟨c0, c1, c2, c3⟩, hbv⟩ := two_rows (W := wr) q1 q2 p1 p2 58
        rw [← hV]
        have T2 := Lib.hid (Below.andThen HB.out hbv (Nat.le_refl _))
        clear hV hbv SS BD
        go_wp2_with fail
        refine ⟨⟨k + 1, by omega, by simp, Lib.hid (by rw [HFIN.out]), T2⟩, ?_⟩
        simp [intOf]; omega
    · have hd : decide ((k : Int) < (ps.length : Int)) = false := decide_eq_false (by omega)
      have hd' : decide (k < ps.length) = false := decide_eq_false hlt
      obtain rfl : k = ps.length := by omega
      subst hs
      clear HS
      go_wp2_with fail
      go_ret
      exact ⟨rfl, HB.out⟩
end Go.Proofs.Ytlehddifcjklgaa
