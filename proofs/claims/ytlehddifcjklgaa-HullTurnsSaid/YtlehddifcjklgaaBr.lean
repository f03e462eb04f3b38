import Derived.Test.YtlehddifcjklgaaBq
import Derived.Maps.OwnIn
import Derived.Maps.OwnSet
import Derived.Maps.AppendAt
import Derived.RangeFuncNested
import Derived.RangeFuncBound
import Derived.RangeFuncCalls
import Derived.RangeFuncLeaves
import Derived.Shelf.Abstract
import Derived.Shelf.RegionOpen
import Derived.WalkKit
import Derived.OwnWalkIn
import Derived.TacticsInMore
import Derived.LoopNIn
import Derived.LoopIn
import Derived.WalkMore
import Derived.Sort.QuietThIn
import Derived.Sort.QuietTacIn
import Derived.Sort.BigQuietIn
import Derived.WalkSpells
import Derived.WalkLawsBesides
import Derived.BigQuiet
import Derived.Deep.QuietTactic
import Derived.Lib.Hide
import Derived.Deep.RegionHeld3
import Derived.StillTailTactics
import Derived.Deep.LoopGhost
import Derived.Lib.IndexAny
namespace Go.Proofs.Ytlehddifcjklgaa
open Go.RowKit Go.Shelf
attribute [local go_sem] Oper.semAt_some
def sideK (ps : List Pt) (i k : Nat) : Prop := k ≠ i → k ≠ (i + 1) % ps.length → 0 < turn (ptAt ps i) (nx ps i) (ptAt ps k)
set_option maxRecDepth 100000 in
set_option maxHeartbeats 1000000 in
theorem rHull_mid (ps : List Pt) (b c : Nat) (w : World) (hp : PtsAt w b 0 ps) (ha : areP ps = true) :
    Calls Try.prog 19 #[.slice (some ⟨b, 0, none⟩) ps.length c] w fun e w' => e = .returned (.bool (chk ps)) ∧ Below w.heap.size w w' := by
  obtain ⟨h3, h12⟩ := areP_len ha
  have hnc : PtsA w (some ⟨b, 0, none⟩) ps ps.length := .inr ⟨b, 0, rfl, hp, Nat.le_refl _⟩
  have hN := Numbers_mid ps b 0 c w hp (by omega)
  rw [ha] at hN
  obtain ⟨E, hE⟩ : ∃ E : Bool, chk ps = E := ⟨_, rfl⟩
  rw [hE]
  have HE := Lib.hid hE
  have HP := Lib.hid hp
  have HA := Lib.hid ha
  have HN := Lib.hid hN
  clear hp hE ha hnc hN
  go_enter Try.func19, Try.ntmps19
  go_wp2_with fail
  refine HN.out.mono ?_
  rintro e w1 ⟨rfl, hb⟩
  have HB := Lib.hid hb
  clear hb HN
  go_wp2_with fail
  go_loopw [4] (fun i wr => ∃ k : Nat, k ≤ ps.length ∧ i = .int .i64 (k : Int) ∧ Hid (Below w.heap.size w wr) ∧ Hid (∀ x, x < k → sideAt ps x = true)) (fun i _ => ps.length - (intOf i).toNat)
  case atStart => exact ⟨0, by omega, rfl, HB, Lib.hid (fun x h => by omega)⟩
  case round =>
    clear HB
    obtain ⟨i, hi, rfl, HB, HK⟩ := hrel
    by_cases hlt : i < ps.length
    · have hd : decide ((i : Int) < (ps.length : Int)) = true := decide_eq_true (by omega)
      have hS := Lib.hid (fun h => (sideAt_iff h3 hlt).2 h)
      have hS2 := Lib.hid (show ∀ k, k < ps.length → ¬ sideK ps i k → E = false from fun k hk h => by
        rw [← HE.out]
        refine chk_false hlt ?_
        cases hs : sideAt ps i with
        | false => rfl
        | true => exact absurd ((sideAt_iff h3 hlt).1 hs k hk) h)
      obtain ⟨j, hj⟩ : ∃ j, (i + 1) % ps.length = j := ⟨_, rfl⟩
      have hjl : j < ps.length := by rw [← hj]; exact Nat.mod_lt _ (by omega)
      have ej2 : ((i : Int) + 1) % (ps.length : Int) = (j : Int) := by rw [← hj, Int.natCast_emod]; rfl
      have ej1 : ((i : Int) + 1).tmod (ps.length : Int) = (j : Int) := by
        rw [Int.tmod_eq_emod_of_nonneg (by omega)]; exact ej2
      have z1 : ¬ ((ps.length : Int) = 0) := by omega
      have HJ := Lib.hid hj
      clear hj
      go_wp2_with fail
      go_loopw [5] (fun v wr => ∃ k : Nat, k ≤ ps.length ∧ v = .int .i64 (k : Int) ∧ Hid (Below w.heap.size w wr) ∧ Hid (∀ x, x < k → sideK ps i x)) (fun v _ => ps.length - (intOf v).toNat)
      case atStart => exact ⟨0, by omega, rfl, HB, Lib.hid (fun x h => by omega)⟩
      case round =>
        clear HB
        obtain ⟨k, hk, rfl, HB, HKK⟩ := hrel
        by_cases hlk : k < ps.length
        · have hd : decide ((k : Int) < (ps.length : Int)) = true := decide_eq_true (by omega)
          have hpt := HP.out.grow HB.out
          have xi := Kl.cell hpt.lt (hpt.x i hlt)
          have yi := Kl.cell hpt.lt (hpt.y i hlt)
          have xj := Kl.cell hpt.lt (hpt.x j hjl)
          have yj := Kl.cell hpt.lt (hpt.y j hjl)
          have xk := Kl.cell hpt.lt (hpt.x k hlk)
          have yk := Kl.cell hpt.lt (hpt.y k hlk)
          simp only [Nat.zero_add] at xi yi xj yj xk yk
          have bi := inR_bd HA.out hlt
          have bj := inR_bd HA.out hjl
          have bk := inR_bd HA.out hlk
          have HSK := Lib.hid (show sideK ps i k ↔ (k ≠ i → k ≠ j → 0 < turn ps[i] ps[j] ps[k]) by
            unfold sideK nx; rw [HJ.out, ptAt_lt hlt, ptAt_lt hjl, ptAt_lt hlk])
          generalize ps[i] = pi at *
          generalize ps[j] = pj at *
          generalize ps[k] = pk at *
          obtain ⟨i1, i2⟩ := pi
          obtain ⟨j1, j2⟩ := pj
          obtain ⟨k1, k2⟩ := pk
          dsimp only at xi yi xj yj xk yk bi bj bk
          have HT := Lib.hid (fun W => Turn_any i1 i2 j1 j2 k1 k2 W (bi.1.mono (by omega)) (bi.2.mono (by omega)) (bj.1.mono (by omega)) (bj.2.mono (by omega)) (bk.1.mono (by omega)) (bk.2.mono (by omega)))
          generalize turn (i1, i2) (j1, j2) (k1, k2) = t at *
          clear hpt bi bj bk
          by_cases hki : k = i
          · have HNX := Lib.hid (show ∀ x, x < k + 1 → sideK ps i x from fun x hx => by
              by_cases h : x = k
              · subst h; exact HSK.out.2 (fun h => absurd hki h)
              · exact HKK.out x (by omega))
            clear hS hS2
            have n1 : ((k : Int) != (i : Int)) = false := by simp [hki]
            have n2 : (k != i) = false := by simp [hki]
            clear hki HSK
            go_wp2_with fail
            refine wp_region_below (by kernel_rfl) (by kernel_rfl) ?_
            repeat (go_big_quiet_step (first | (go_at_call 60; exact Kl.call (HT.out _))))
            refine wpQuiet_nil ?_
            rintro _ ⟨wq, rfl⟩
            have T5 := Lib.hid (Below.andThen HB.out wq.h (Nat.le_refl _))
            go_wp2_with fail
            exact ⟨⟨k + 1, by omega, by simp, T5, HNX⟩, by simp [intOf]; omega⟩
          · have n1 : ((k : Int) != (i : Int)) = true := by simp; omega
            have n2 : (k != i) = true := by simp; omega
            by_cases hkj : k = j
            · have HNX := Lib.hid (show ∀ x, x < k + 1 → sideK ps i x from fun x hx => by
                by_cases h : x = k
                · subst h; exact HSK.out.2 (fun _ h => absurd hkj h)
                · exact HKK.out x (by omega))
              clear hS hS2
              have n3 : ((k : Int) != (j : Int)) = false := by simp [hkj]
              have n4 : (k != j) = false := by simp [hkj]
              clear hki hkj HSK
              go_wp2_with fail
              refine wp_region_below (by kernel_rfl) (by kernel_rfl) ?_
              repeat (go_big_quiet_step (first | (go_at_call 60; exact Kl.call (HT.out _))))
              refine wpQuiet_nil ?_
              rintro _ ⟨wq, rfl⟩
              have T5 := Lib.hid (Below.andThen HB.out wq.h (Nat.le_refl _))
              go_wp2_with fail
              exact ⟨⟨k + 1, by omega, by simp, T5, HNX⟩, by simp [intOf]; omega⟩
            · have n3 : ((k : Int) != (j : Int)) = true := by simp; omega
              have n4 : (k != j) = true := by simp; omega
              by_cases ht : t ≤ 0
              · have d1 : decide (t ≤ 0) = true := decide_eq_true ht
                have HEE := Lib.hid (hS2.out k hlk (fun h => by have := HSK.out.1 h hki hkj; omega))
                clear hki hkj
                go_wp2_with fail
                refine wp_region_below (by kernel_rfl) (by kernel_rfl) ?_
                repeat (go_big_quiet_step (first | (go_at_call 60; exact Kl.call (HT.out _))))
                refine wpQuiet_nil ?_
                rintro _ ⟨wq, rfl⟩
                have T5 := Lib.hid (Below.andThen HB.out wq.h (Nat.le_refl _))
                go_wp2_with fail
                go_ret
                exact ⟨ret_bool HEE.out.symm, T5.out⟩
              · have d1 : decide (t ≤ 0) = false := decide_eq_false ht
                have HNX := Lib.hid (show ∀ x, x < k + 1 → sideK ps i x from fun x hx => by
                  by_cases h : x = k
                  · subst h; exact HSK.out.2 (fun _ _ => by omega)
                  · exact HKK.out x (by omega))
                clear hS hS2 hki hkj HSK
                go_wp2_with fail
                refine wp_region_below (by kernel_rfl) (by kernel_rfl) ?_
                repeat (go_big_quiet_step (first | (go_at_call 60; exact Kl.call (HT.out _))))
                refine wpQuiet_nil ?_
                rintro _ ⟨wq, rfl⟩
                have T5 := Lib.hid (Below.andThen HB.out wq.h (Nat.le_refl _))
                go_wp2_with fail
                exact ⟨⟨k + 1, by omega, by simp, T5, HNX⟩, by simp [intOf]; omega⟩
        · have hd : decide ((k : Int) < (ps.length : Int)) = false := decide_eq_false (by omega)
          obtain rfl : k = ps.length := by omega
          have HNX := Lib.hid (show ∀ x, x < i + 1 → sideAt ps x = true from fun x hx => by
            by_cases h : x = i
            · subst h; exact hS.out (fun k hk => HKK.out k hk)
            · exact HK.out x (by omega))
          clear hS hS2
          go_wp2_with fail
          exact ⟨⟨i + 1, by omega, by simp, HB, HNX⟩, by simp [intOf]; omega⟩
    · have hd : decide ((i : Int) < (ps.length : Int)) = false := decide_eq_false (by omega)
      obtain rfl : i = ps.length := by omega
      have HEE := Lib.hid (show E = true by rw [← HE.out]; exact chk_true HA.out (fun x hx => HK.out x (List.mem_range.1 hx)))
      go_wp2_with fail
      go_ret
      exact ⟨ret_bool HEE.out.symm, HB.out⟩
theorem rHull_bad (ps : List Pt) (a : Option Addr) (c : Nat) (w : World) (hp : PtsA w a ps c) (hl : ps.length ≤ 1000000) (ha : areP ps = false) :
    Calls Try.prog 19 #[.slice a ps.length c] w fun e w' => e = .returned (.bool (chk ps)) ∧ Below w.heap.size w w' := by
  have hN := Numbers_any ps a c w hp hl
  rw [ha] at hN
  have hE : chk ps = false := by unfold chk; rw [ha]; rfl
  rw [hE]
  clear hE hp ha
  go_enter Try.func19, Try.ntmps19
  go_wp2_with fail
  refine hN.mono ?_
  rintro e w1 ⟨rfl, hb⟩
  have HB := Lib.hid hb
  clear hb hN
  go_wp2_with fail
  go_ret
  exact ⟨rfl, HB.out⟩
/-- the points of ps, at a block's start -/
def PtsZ (W : World) (a : Option Addr) (ps : List Pt) (c : Nat) : Prop := ps = [] ∨ ∃ b, a = some ⟨b, 0, none⟩ ∧ PtsAt W b 0 ps ∧ ps.length ≤ c
theorem PtsZ.toA {W : World} {a : Option Addr} {ps : List Pt} {c : Nat} (h : PtsZ W a ps c) : PtsA W a ps c := by
  rcases h with h | ⟨b, h1, h2⟩
  · exact .inl h
  · exact .inr ⟨b, 0, h1, h2⟩
theorem PtsZ.grow {W W' : World} {a : Option Addr} {ps : List Pt} {c : Nat} (h : PtsZ W a ps c) (hb : Below W.heap.size W W') : PtsZ W' a ps c := by
  rcases h with h | ⟨b, h1, h2, h3⟩
  · exact .inl h
  · exact .inr ⟨b, h1, h2.grow hb, h3⟩
theorem OwnP.ptsZ {W : World} {n₀ : Nat} {a : Option Addr} {c : Nat} {ps : List Pt} (h : OwnP W n₀ (.slice a ps.length c) ps) : PtsZ W a ps c := by
  obtain ⟨a', c', he, h⟩ := h.open
  cases he
  rcases h with ⟨_, _, h⟩ | ⟨g, _, h1, h2, h3⟩
  · exact .inl h
  · exact .inr ⟨g, h1, h2, h3⟩
theorem rHull_any (ps : List Pt) (a : Option Addr) (c : Nat) (w : World) (hp : PtsZ w a ps c) (hl : ps.length ≤ 1000000) :
    Calls Try.prog 19 #[.slice a ps.length c] w fun e w' => e = .returned (.bool (chk ps)) ∧ Below w.heap.size w w' := by
  cases ha : areP ps with
  | false => exact rHull_bad ps a c w hp.toA hl ha
  | true =>
    have h3 := (areP_len ha).1
    rcases hp with rfl | ⟨b, rfl, hp, _⟩
    · simp at h3
    · exact rHull_mid ps b c w hp ha
theorem Check_all (ps : List Pt) (a : Option Addr) (c : Nat) (w : World) (hp : PtsZ w a ps c) (hl : ps.length ≤ 1000000) :
    Calls Try.prog 20 #[.slice a ps.length c] w fun e w' => e = .returned (.int .i64 (if chk ps then 0 else 30)) ∧ Below w.heap.size w w' := by
  rcases hp with rfl | ⟨b, rfl, hp, _⟩
  · exact check_bad [] a c w (by simp) rfl (fun W _ => arePoints_short [] a c W (by simp) (by simp))
  · exact check_any ps b c w hp hl
end Go.Proofs.Ytlehddifcjklgaa
