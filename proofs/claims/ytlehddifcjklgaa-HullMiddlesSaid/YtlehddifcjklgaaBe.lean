import Derived.Test.YtlehddifcjklgaaBd
import Derived.Maps.OwnIn
import Derived.Maps.OwnSet
import Derived.Maps.AppendAt
import Derived.RangeFuncNested
import Derived.RangeFuncBound
import Derived.RangeFuncCalls
import Derived.RangeFuncLeaves
import Derived.Shelf.Abstract
import Derived.Shelf.RegionOpen
import Derived.WalkKit
import Derived.OwnWalkIn
import Derived.TacticsInMore
import Derived.LoopNIn
import Derived.LoopIn
import Derived.WalkMore
import Derived.Sort.QuietThIn
import Derived.Sort.QuietTacIn
import Derived.Sort.BigQuietIn
import Derived.WalkSpells
import Derived.WalkLawsBesides
import Derived.BigQuiet
import Derived.Deep.QuietTactic
import Derived.Lib.Hide
import Derived.Deep.RegionHeld3
import Derived.StillTailTactics
import Derived.Deep.LoopGhost
import Derived.Lib.IndexAny
namespace Go.Proofs.Ytlehddifcjklgaa
open Go.RowKit Go.Shelf
attribute [local go_sem] Oper.semAt_some
set_option maxRecDepth 100000 in
set_option maxHeartbeats 1000000 in
theorem rStands_any (ps : List Pt) (b c : Nat) (w : World) (hp : PtsAt w b 0 ps) (ht : twrB ps = true) :
    Calls Try.prog 52 #[.slice (some ⟨b, 0, none⟩) ps.length c] w fun e w' => e = .returned (.tuple #[.int .i64 (standF ps).1, .bool (standF ps).2]) ∧ Below w.heap.size w w' := by
  obtain ⟨h1, h12⟩ := twr_len ht
  have HH := Lib.hid (fun W k (h : PtsAt W b 0 ps) (hk : k < ps.length) => rBalance_any ps b c k W h hk h12 (fun i hi => twr_bd ht hi))
  have HBD := Lib.hid (fun i (hi : i < ps.length) => twr_bd ht hi)
  have HBB := Lib.hid (fun k (hk : k < ps.length) => balF_bd (ps := ps.drop k) (by rw [List.length_drop]; omega) (fun i h => by rw [List.getElem_drop]; exact twr_bd ht _))
  have HP := Lib.hid hp
  obtain ⟨E1, E2, hE⟩ : ∃ E1 E2, standF ps = (E1, E2) := ⟨_, _, rfl⟩
  rw [hE]
  have HE := Lib.hid hE
  dsimp only
  clear hp ht hE
  go_enter Try.func52, Try.ntmps52
  go_wp2_with fail
  go_loopw [4] (fun i wr => ∃ k : Nat, k ≤ ps.length ∧ i = .int .i64 (k : Int) ∧ Hid (Below w.heap.size w wr) ∧ Hid (∀ j, j < k → heldB ps j = true)) (fun i _ => ps.length - (intOf i).toNat)
  case atStart => exact ⟨0, by omega, rfl, Lib.hid (Below.refl _ _), Lib.hid (fun j h => by omega)⟩
  case round =>
    obtain ⟨k, hk, rfl, HB, HK⟩ := hrel
    by_cases hlt : k < ps.length
    · have hd : decide ((k : Int) < (ps.length : Int)) = true := decide_eq_true (by omega)
      have hfin : heldB ps k = if k = 0 then !lessF (0, 1) (balF (ps.drop k)) else withinF (balF (ps.drop k)) ((ptAt ps (k - 1)).1, 1) ((ptAt ps (k - 1)).1 + (ptAt ps (k - 1)).2, 1) := rfl
      have hC := HH.out wr k (HP.out.grow HB.out) hlt
      obtain ⟨n1, n2⟩ := HBB.out k hlt
      obtain ⟨an, ad, ha⟩ : ∃ an ad, balF (ps.drop k) = (an, ad) := ⟨_, _, rfl⟩
      rw [ha] at hfin hC n1 n2
      dsimp only at hC n1 n2
      have FIN := Lib.hid hfin
      have HBAD := Lib.hid (show heldB ps k = false → E1 = (k : Int) ∧ E2 = false from fun hh => by
        have h := HE.out
        unfold standF at h
        rw [find_first (fun j hj => by simp [HK.out j hj]) (by simp [hh]) hlt] at h
        simp at h; exact ⟨h.1.symm, h.2⟩)
      have HGOOD := Lib.hid (show heldB ps k = true → ∀ j, j < k + 1 → heldB ps j = true from fun hh j hj => by
        by_cases h : j = k
        · subst h; exact hh
        · exact HK.out j (by omega))
      clear hfin ha
      go_wp2_with fail
      refine hC.mono ?_
      rintro e w3 ⟨rfl, hb3⟩
      have T3 := Lib.hid (Below.andThen HB.out hb3 (Nat.le_refl _))
      have T4 := Lib.hid (Below.al T3.out (Nat.le_refl _) (.cells #[.int .i64 an, .int .i64 ad] 58))
      obtain ⟨z0, z1, z2, z3⟩ := two_cells (show Row (w3.alloc (.cells #[.int .i64 an, .int .i64 ad] 58)) w3.heap.size 58 [.int .i64 an, .int .i64 ad] from Row.new _ _ _)
      clear hb3 hC HB
      have x0 := Kl.cell (w := w3.alloc (.cells #[.int .i64 an, .int .i64 ad] 58)) (b := w3.heap.size) (by simp) z0
      have x1 := Kl.cell (w := w3.alloc (.cells #[.int .i64 an, .int .i64 ad] 58)) (b := w3.heap.size) (by simp) z1
      clear z2 z3
      by_cases hk0 : k = 0
      · have d0 : ((k : Int) == 0) = true := by simp [hk0]
        have d5 : decide (0 < k) = false := decide_eq_false (by omega)
        by_cases hbad : 0 < an
        · have d1 : decide (0 < an) = true := decide_eq_true hbad
          have HF := Lib.hid (HBAD.out (by rw [FIN.out, if_pos hk0]; unfold lessF; simp; omega))
          clear hk0
          go_wp2_with fail
          refine wp_region_below (by kernel_rfl) (by kernel_rfl) ?_
          repeat (go_big_quiet_step (fail))
          refine wpQuiet_nil ?_
          rintro _ ⟨wq, rfl⟩
          have T5 := Lib.hid (Below.andThen T4.out wq.h (Nat.le_refl _))
          generalize wq.W = w5 at *
          go_wp2_with fail
          rw [HF.out.1, HF.out.2]
          exact bodyPost_ret (v := .tuple #[.int .i64 (k : Int), .bool false]) (by simp [results, Try.results52, go_sem]) rfl ⟨rfl, T5.out⟩
        · have d1 : decide (0 < an) = false := decide_eq_false hbad
          have HF := Lib.hid (HGOOD.out (by rw [FIN.out, if_pos hk0]; unfold lessF; simp; omega))
          clear hk0
          go_wp2_with fail
          refine wp_region_below (by kernel_rfl) (by kernel_rfl) ?_
          repeat (go_big_quiet_step (fail))
          refine wpQuiet_nil ?_
          rintro _ ⟨wq, rfl⟩
          have T5 := Lib.hid (Below.andThen T4.out wq.h (Nat.le_refl _))
          generalize wq.W = w5 at *
          go_wp2_with fail
          go_roundw
          case rel => exact ⟨k + 1, by omega, rfl, T5, HF⟩
          case measure => simp [intOf]; omega
      · have d0 : ((k : Int) == 0) = false := beq_eq_false_iff_ne.2 (by omega)
        have d5 : decide (0 < k) = true := decide_eq_true (by omega)
        have hk1 : k - 1 < ps.length := by omega
        have F2 := Lib.hid (show heldB ps k = withinF (an, ad) ((ptAt ps (k - 1)).1, 1) ((ptAt ps (k - 1)).1 + (ptAt ps (k - 1)).2, 1) by rw [FIN.out, if_neg hk0])
        have hpt : ptAt ps (k - 1) = ps[k - 1] := ptAt_lt hk1
        rw [hpt] at F2
        have hb := HBD.out (k - 1) hk1
        have hPV := HP.out.grow T4.out
        have hx := hPV.x _ hk1
        have hy := hPV.y _ hk1
        have hlt4 : b < (w3.alloc (.cells #[.int .i64 an, .int .i64 ad] 58)).heap.size := hPV.lt
        rw [Nat.zero_add] at hx hy
        have e1 : IntKind.i64.wrap ((k : Int) - 1) = ((k - 1 : Nat) : Int) := by rw [i64_of _ (by omega) (by omega)]; omega
        have e2 : (k : Int) - 1 = ((k - 1 : Nat) : Int) := by omega
        generalize ps[k - 1] = p at *
        obtain ⟨p1, p2⟩ := p
        dsimp only at hx hy hb F2
        have hp2 : Bd 100 p2 := by unfold Bd; omega
        have w1 : IntKind.i64.wrap (p1 * ad) = p1 * ad := i64_bd (hb.1.mul n2) (by omega)
        have w2 : IntKind.i64.wrap (p1 + p2) = p1 + p2 := i64_bd (hb.1.add hp2) (by omega)
        have w4 : IntKind.i64.wrap ((p1 + p2) * ad) = (p1 + p2) * ad := i64_bd ((hb.1.add hp2).mul n2) (by omega)
        have y0 := Kl.cell hlt4 hx
        have y1 := Kl.cell hlt4 hy
        clear hb hp2 hPV hpt hk0 hx hy hlt4 n1 n2
        generalize hkk : k - 1 = kk at *
        clear hkk
        by_cases hb1 : an < p1 * ad
        · have d1 : decide (an < p1 * ad) = true := decide_eq_true hb1
          have HF := Lib.hid (HBAD.out (by rw [F2.out]; unfold withinF lessF; simp; omega))
          go_wp2_with fail
          refine wp_region_below (by kernel_rfl) (by kernel_rfl) ?_
          repeat (go_big_quiet_step (fail))
          refine wpQuiet_nil ?_
          rintro _ ⟨wq, rfl⟩
          have T5 := Lib.hid (Below.andThen T4.out wq.h (Nat.le_refl _))
          generalize wq.W = w5 at *
          go_wp2_with fail
          rw [HF.out.1, HF.out.2]
          exact bodyPost_ret (v := .tuple #[.int .i64 (k : Int), .bool false]) (by simp [results, Try.results52, go_sem]) rfl ⟨rfl, T5.out⟩
        · have d1 : decide (an < p1 * ad) = false := decide_eq_false hb1
          by_cases hb2 : (p1 + p2) * ad < an
          · have d2 : decide ((p1 + p2) * ad < an) = true := decide_eq_true hb2
            have HF := Lib.hid (HBAD.out (by rw [F2.out]; unfold withinF lessF; simp; omega))
            go_wp2_with fail
            refine wp_region_below (by kernel_rfl) (by kernel_rfl) ?_
            repeat (go_big_quiet_step (fail))
            refine wpQuiet_nil ?_
            rintro _ ⟨wq, rfl⟩
            have T5 := Lib.hid (Below.andThen T4.out wq.h (Nat.le_refl _))
            generalize wq.W = w5 at *
            go_wp2_with fail
            rw [HF.out.1, HF.out.2]
            exact bodyPost_ret (v := .tuple #[.int .i64 (k : Int), .bool false]) (by simp [results, Try.results52, go_sem]) rfl ⟨rfl, T5.out⟩
          · have d2 : decide ((p1 + p2) * ad < an) = false := decide_eq_false hb2
            have HF := Lib.hid (HGOOD.out (by rw [F2.out]; unfold withinF lessF; simp; omega))
            go_wp2_with fail
            refine wp_region_below (by kernel_rfl) (by kernel_rfl) ?_
            repeat (go_big_quiet_step (fail))
            refine wpQuiet_nil ?_
            rintro _ ⟨wq, rfl⟩
            have T5 := Lib.hid (Below.andThen T4.out wq.h (Nat.le_refl _))
            generalize wq.W = w5 at *
            go_wp2_with fail
            go_roundw
            case rel => exact ⟨k + 1, by omega, rfl, T5, HF⟩
            case measure => simp [intOf]; omega
    · have hd : decide ((k : Int) < (ps.length : Int)) = false := decide_eq_false (by omega)
      obtain rfl : k = ps.length := by omega
      have hfin : E1 = 0 ∧ E2 = true := by
        have h := HE.out
        unfold standF at h
        rw [List.find?_eq_none.2 (fun j hj => by simp [HK.out j (List.mem_range.1 hj)])] at h
        simp at h; exact ⟨h.1.symm, h.2⟩
      have HF := Lib.hid hfin
      clear hfin
      go_wp2_with fail
      rw [HF.out.1, HF.out.2]
      exact bodyPost_ret (v := .tuple #[.int .i64 0, .bool true]) (by simp [results, Try.results52, go_sem]) rfl ⟨rfl, HB.out⟩
end Go.Proofs.Ytlehddifcjklgaa
