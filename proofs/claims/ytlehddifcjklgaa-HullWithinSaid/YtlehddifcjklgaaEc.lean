import Derived.Test.YtlehddifcjklgaaEb
import Derived.Test.YtlehddifcjklgaaTs
import Derived.Maps.OwnIn
import Derived.Maps.OwnSet
import Derived.Maps.AppendAt
import Derived.RangeFuncNested
import Derived.RangeFuncBound
import Derived.RangeFuncCalls
import Derived.RangeFuncLeaves
import Derived.Shelf.Abstract
import Derived.Shelf.RegionOpen
import Derived.WalkKit
import Derived.OwnWalkIn
import Derived.TacticsInMore
import Derived.LoopNIn
import Derived.LoopIn
import Derived.WalkMore
import Derived.Sort.QuietThIn
import Derived.Sort.QuietTacIn
import Derived.Sort.BigQuietIn
import Derived.WalkSpells
import Derived.WalkLawsBesides
import Derived.BigQuiet
import Derived.Deep.QuietTactic
import Derived.Lib.Hide
import Derived.Deep.RegionHeld3
import Derived.StillTailTactics
import Derived.Deep.LoopGhost
import Derived.Lib.IndexAny
namespace Go.Proofs.Ytlehddifcjklgaa
open Go.RowKit Go.Shelf
attribute [local go_sem] Oper.semAt_some
set_option maxRecDepth 100000 in
set_option maxHeartbeats 4000000 in
theorem insort_any (ps : List Pt) (g c n₀ : Nat) (w : World) (ho : OwnG w n₀ g c ps) (hn0 : n₀ ≤ w.heap.size) (h1 : 1 ≤ ps.length) (h12 : ps.length ≤ 12) :
    Calls Try.prog 108 #[.slice (some ⟨g, 0, none⟩) ps.length c, .int .i64 0, .int .i64 (ps.length : Int), .func (.func 85) #[] #[]] w fun e w' => (∃ v, e = .returned v) ∧ ∃ L, L.Perm ps ∧ SrtU L ps.length ∧ OwnG w' n₀ g c L ∧ Below n₀ w w' := by
  obtain ⟨N, hN⟩ : ∃ N, ps.length = N := ⟨_, rfl⟩
  have HN := Lib.hid hN
  have HO := Lib.hid ho
  rw [hN] at h1 h12 ⊢
  clear hN ho
  go_enter Try.func108, Try.ntmps108
  go_wp2_with fail
  go_loopw [8] (fun i wr => ∃ (k : Nat) (L : List Pt), i = .int .i64 (k : Int) ∧ 1 ≤ k ∧ k ≤ N ∧ Hid (L.Perm ps ∧ SrtU L k) ∧ Hid (OwnG wr n₀ g c L) ∧ Hid (Below n₀ w wr)) (fun i _ => N - (intOf i).toNat)
  case atStart => exact ⟨1, ps, rfl, by omega, by omega, Lib.hid ⟨List.Perm.refl _, fun a b h h' => by omega⟩, HO, Lib.hid (Below.refl _ _)⟩
  case round =>
    clear HO
    obtain ⟨i, L, rfl, hi1, hiN, HS, HO, HB⟩ := hrel
    by_cases hlt : i < N
    · have hd : decide ((i : Int) < (N : Int)) = true := decide_eq_true (by omega)
      go_wp2_with fail
      have HST := Lib.hid (Srt.start HS.out.1 HS.out.2)
      clear HS
      go_loopw [9] (fun jv wx => ∃ (j : Nat) (L : List Pt), jv = .int .i64 (j : Int) ∧ j ≤ i ∧ Hid (Srt ps L i j) ∧ Hid (OwnG wx n₀ g c L) ∧ Hid (Below n₀ w wx)) (fun jv _ => (intOf jv).toNat)
      case atStart => exact ⟨i, L, rfl, by omega, HST, HO, HB⟩
      case round =>
        clear HO HB HST
        clear L
        obtain ⟨j, L, rfl, hji, HS, HO, HB⟩ := hrel
        have hLN : L.length = N := by rw [HS.out.perm.length_eq, HN.out]
        have hne : L ≠ [] := fun h => by rw [h] at hLN; simp at hLN; omega
        obtain ⟨hpt, hcc, hg0⟩ := HO.out.pts hne
        have HLN := Lib.hid hLN
        by_cases hj0 : j = 0
        · have d1 : decide (0 < (j : Int)) = false := decide_eq_false (by omega)
          have d2 : decide (0 < j) = false := decide_eq_false (by omega)
          have HU := Lib.hid (HS.out.stop hji (.inl hj0))
          have HPm := Lib.hid HS.out.perm
          clear hj0 hpt hLN hne
          go_wp2_with fail
          refine wp_region_below (by kernel_rfl) (by kernel_rfl) ?_
          repeat (go_big_quiet_step (fail))
          refine wpQuiet_nil ?_
          rintro _ ⟨wq, rfl⟩
          have HO2 := Lib.hid (show OwnG wq.W n₀ g c L from own_grow HO.out wq.h)
          have HB2 := Lib.hid (HB.out.trans (wq.h.mono (by have := HB.out.size; omega)))
          generalize wq.W = w5 at *
          go_wp2_with fail
          refine ⟨⟨i + 1, L, by simp, by omega, by omega, Lib.hid ⟨HPm.out, HU.out⟩, HO2, HB2⟩, ?_⟩
          simp [intOf]; omega
        · have d1 : decide (0 < (j : Int)) = true := decide_eq_true (by omega)
          have d2 : decide (0 < j) = true := decide_eq_true (by omega)
          have hjn : j < L.length := by omega
          have hjm : j - 1 < L.length := by omega
          have xj := hpt.x j hjn
          have yj := hpt.y j hjn
          have xm := hpt.x (j - 1) hjm
          have ym := hpt.y (j - 1) hjm
          rw [Nat.zero_add] at xj yj xm ym
          rw [← ptAt_lt hjn] at xj yj
          rw [← ptAt_lt hjm] at xm ym
          have hgl := hpt.lt
          have e1 : IntKind.i64.wrap ((j : Int) - 1) = ((j - 1 : Nat) : Int) := by rw [i64_of _ (by omega) (by omega)]; omega
          have e2 : (j : Int) - 1 = ((j - 1 : Nat) : Int) := by omega
          have HSTP := Lib.hid (fun h => HS.out.stop hji (.inr h))
          have HSTE := Lib.hid (fun h => HS.out.step hjn (by omega) hji h)
          have HSW := Lib.hid (show swp L j = (L.set j (ptAt L (j - 1))).set (j - 1) (ptAt L j) from rfl)
          have HPm := Lib.hid HS.out.perm
          have HJ := Lib.hid (And.intro hjn hjm)
          generalize ptAt L j = pa at *
          generalize ptAt L (j - 1) = pb at *
          obtain ⟨a1, a2⟩ := pa
          obtain ⟨b1, b2⟩ := pb
          dsimp only at xj yj xm ym
          generalize hjmm : j - 1 = jm at *
          have HC := Lib.hid (fun W => around1_any a1 a2 b1 b2 W)
          obtain ⟨r, hr⟩ : ∃ r, ptCmp (a1, a2) (b1, b2) = r := ⟨_, rfl⟩
          have hneg := ptCmp_neg (a1, a2) (b1, b2)
          rw [hr] at HC hneg
          have u0 := Kl.cell hgl xj
          have u1 := Kl.cell hgl yj
          have u2 := Kl.cell hgl xm
          have u3 := Kl.cell hgl ym
          have C0' := Lib.hid (And.intro hgl (And.intro xj (And.intro yj (And.intro xm ym))))
          clear hr hpt hLN hne xj yj xm ym hjn hjm hj0 HS
          cases hbb : befB (a1, a2) (b1, b2)
          · rw [hbb] at hneg HSTP
            have HU := Lib.hid (HSTP.out rfl)
            clear hbb HSTP HSTE HSW
            go_wp2_with fail
            refine wp_region_below (by kernel_rfl) (by kernel_rfl) ?_
            iterate 14 (go_big_quiet_step (fail))
            go_big_quiet_step (first | (go_at_call 85; exact Kl.call (HC.out _)))
            repeat (go_big_quiet_step (fail))
            refine wpQuiet_nil ?_
            rintro _ ⟨wq, rfl⟩
            have HO2 := Lib.hid (show OwnG wq.W n₀ g c L from own_grow HO.out wq.h)
            have HB2 := Lib.hid (HB.out.trans (wq.h.mono (by have := HB.out.size; omega)))
            generalize wq.W = w5 at *
            clear u0 u1 u2 u3 C0'
            go_wp2_with fail
            refine ⟨⟨i + 1, L, by simp, by omega, by omega, Lib.hid ⟨HPm.out, HU.out⟩, HO2, HB2⟩, ?_⟩
            simp [intOf]; omega
          · rw [hbb] at hneg HSTE
            have HU := Lib.hid (HSTE.out rfl)
            clear hbb HSTP HSTE
            go_wp2_with fail
            refine wp_region_below (by kernel_rfl) (by kernel_rfl) ?_
            iterate 14 (go_big_quiet_step (fail))
            go_big_quiet_step (first | (go_at_call 85; exact Kl.call (HC.out _)))
            repeat (go_big_quiet_step (fail))
            refine wpQuiet_nil ?_
            rintro _ ⟨wq, rfl⟩
            have HO2 := Lib.hid (show OwnG wq.W n₀ g c L from own_grow HO.out wq.h)
            have HB2 := Lib.hid (HB.out.trans (wq.h.mono (by have := HB.out.size; omega)))
            have C2 := Lib.hid (show wq.W.cell? ⟨g, j * 2, none⟩ = some (.int .i64 a1) ∧ wq.W.cell? ⟨g, j * 2 + 1, none⟩ = some (.int .i64 a2) ∧ wq.W.cell? ⟨g, jm * 2, none⟩ = some (.int .i64 b1) ∧ wq.W.cell? ⟨g, jm * 2 + 1, none⟩ = some (.int .i64 b2) from ⟨below_at wq.h C0'.out.1 C0'.out.2.1, below_at wq.h C0'.out.1 C0'.out.2.2.1, below_at wq.h C0'.out.1 C0'.out.2.2.2.1, below_at wq.h C0'.out.1 C0'.out.2.2.2.2⟩)
            generalize wq.W = w5 at *
            clear u0 u1 u2 u3 C0' HC hneg
            go_wp2_with fail
            obtain ⟨W0, hW0⟩ : ∃ W0, W0 = w5.drew := ⟨_, rfl⟩
            have HW0 := Lib.hid hW0
            have O0 : OwnG W0 n₀ g c L := by rw [hW0]; exact own_grow HO2.out ((Below.refl w5.heap.size w5).drew)
            have C0 := Lib.hid (show W0.cell? ⟨g, j * 2, none⟩ = some (.int .i64 a1) ∧ W0.cell? ⟨g, j * 2 + 1, none⟩ = some (.int .i64 a2) ∧ W0.cell? ⟨g, jm * 2, none⟩ = some (.int .i64 b1) ∧ W0.cell? ⟨g, jm * 2 + 1, none⟩ = some (.int .i64 b2) by rw [hW0]; exact C2.out)
            have FZ0 := Lib.hid (fun i => O0.frozen i)
            have O1 := O0.set j HJ.out.1 b1 b2
            obtain ⟨W1, hW1⟩ : ∃ W1, W1 = (W0.setCell ⟨g, j * 2, none⟩ (.int .i64 b1)).setCell ⟨g, j * 2 + 1, none⟩ (.int .i64 b2) := ⟨_, rfl⟩
            have HW1 := Lib.hid hW1
            rw [← hW1] at O1
            have FZ1 := Lib.hid (fun i => O1.frozen i)
            have hl1 : jm < (L.set j (b1, b2)).length := by rw [List.length_set]; exact HJ.out.2
            have hne1 : (L.set j (b1, b2)) ≠ [] := fun h => by rw [h] at hl1; simp at hl1
            have C1 := Lib.hid (show (∃ v, W1.cell? ⟨g, jm * 2, none⟩ = some v) ∧ (∃ v, W1.cell? ⟨g, jm * 2 + 1, none⟩ = some v) by
              obtain ⟨hp1, _, _⟩ := O1.pts hne1
              have h1 := hp1.x jm hl1
              have h2 := hp1.y jm hl1
              rw [Nat.zero_add] at h1 h2
              exact ⟨⟨_, h1⟩, ⟨_, h2⟩⟩)
            have O2 := O1.set jm hl1 a1 a2
            obtain ⟨W2, hW2⟩ : ∃ W2, W2 = (W1.setCell ⟨g, jm * 2, none⟩ (.int .i64 a1)).setCell ⟨g, jm * 2 + 1, none⟩ (.int .i64 a2) := ⟨_, rfl⟩
            have HW2 := Lib.hid hW2
            rw [← hW2, ← HSW.out] at O2
            have HO3 := Lib.hid O2
            have HB3 := Lib.hid (show Below n₀ w W2 by
              rw [hW2]
              refine Below.setCell (p := ⟨g, jm * 2 + 1, none⟩) (Below.setCell (p := ⟨g, jm * 2, none⟩) ?_ hg0 _) hg0 _
              rw [hW1]
              refine Below.setCell (p := ⟨g, j * 2 + 1, none⟩) (Below.setCell (p := ⟨g, j * 2, none⟩) ?_ hg0 _) hg0 _
              rw [hW0]; exact HB2.out.drew)
            clear hW0 hW1 hW2 O0 O1 O2 hl1 hne1 HO HB HO2 HB2 C2 HSW HPm HJ
            refine wp_region_st (by kernel_rfl) (by kernel_rfl) [37, 38, 39, 40, 41, 42, 43, 44, 45, 46, 47, 48, 49, 50, 51, 53, 52, 54] [.slice (some ⟨g, 0, none⟩) N c, .int .i64 (j : Int), .slice (some ⟨g, 0, none⟩) N c, .int .i64 (j : Int), .int .i64 (jm : Int), .slice (some ⟨g, 0, none⟩) N c, .int .i64 (j : Int), .int .i64 (jm : Int), .pointer (some ⟨g, jm * 2, none⟩), .agg #[.int .i64 b1, .int .i64 b2], .slice (some ⟨g, 0, none⟩) N c, .int .i64 (j : Int), .pointer (some ⟨g, j * 2, none⟩), .agg #[.int .i64 a1, .int .i64 a2], .pointer (some ⟨g, j * 2, none⟩), undef, .pointer (some ⟨g, jm * 2, none⟩), undef] (swapW W0 W1 W2) 18 rfl rfl ⟨[u37, u38, u39, u40, u41, u42, u43, u44, u45, u46, u47, u48, u49, u50, u51, undef, u52, undef], by simp only [putAll, Act.put, List.setIfInBounds_toArray, List.set_cons_succ, List.set_cons_zero, List.set_nil], rfl⟩ (by rw [swapW_0 (by simp) (by simp), HW0.out]) ?steps ?fin
            case steps =>
              simp only [stSteps]
              refine ⟨?_, ?_, ?_, ?_, ?_, ?_, ?_, ?_, ?_, ?_, ?_, ?_, ?_, ?_, ?_, ?_, ?_, ?_, trivial⟩
              · rintro vs bs K hvl hbl hcl hb hw hK
                obtain ⟨x0, x1, x2, x3, x4, x5, x6, x7, x8, x9, x10, x11, x12, x13, x14, x15, x16, x17, rfl⟩ := len18 hvl
                have HK := Lib.hid hK
                have HW := Lib.hid hw
                have HCL := Lib.hid hcl
                have HBB := Lib.hid (And.intro hb hbl)
                clear hK hw hvl hcl hb hbl
                simp only [putAll, Act.put, List.setIfInBounds_toArray, List.set_cons_succ, List.set_cons_zero, List.set_nil]
                have fin0 := HK.out
                rw [swapW_pure (by decide) (by decide)] at fin0
                have FIN := Lib.hid fin0
                clear fin0 HW HCL HBB HK
                generalize swapW W0 W1 W2 bs = W at *
                go_wp2_with fail
                have fin := FIN.out
                simp only [List.getD_cons_zero, putAll, Act.put, List.setIfInBounds_toArray, List.set_cons_succ, List.set_cons_zero, List.set_nil] at fin
                exact fin
              · rintro vs bs K hvl hbl hcl hb hw hK
                obtain ⟨x0, x1, x2, x3, x4, x5, x6, x7, x8, x9, x10, x11, x12, x13, x14, x15, x16, x17, rfl⟩ := len18 hvl
                have HK := Lib.hid hK
                have HW := Lib.hid hw
                have HCL := Lib.hid hcl
                have HBB := Lib.hid (And.intro hb hbl)
                clear hK hw hvl hcl hb hbl
                simp only [putAll, Act.put, List.setIfInBounds_toArray, List.set_cons_succ, List.set_cons_zero, List.set_nil]
                have fin0 := HK.out
                rw [swapW_pure (by decide) (by decide)] at fin0
                have FIN := Lib.hid fin0
                clear fin0 HW HCL HBB HK
                generalize swapW W0 W1 W2 bs = W at *
                go_wp2_with fail
                have fin := FIN.out
                simp only [List.getD_cons_succ, List.getD_cons_zero, putAll, Act.put, List.setIfInBounds_toArray, List.set_cons_succ, List.set_cons_zero, List.set_nil] at fin
                exact fin
              · rintro vs bs K hvl hbl hcl hb hw hK
                obtain ⟨x0, x1, x2, x3, x4, x5, x6, x7, x8, x9, x10, x11, x12, x13, x14, x15, x16, x17, rfl⟩ := len18 hvl
                have HK := Lib.hid hK
                have HW := Lib.hid hw
                have HCL := Lib.hid hcl
                have HBB := Lib.hid (And.intro hb hbl)
                clear hK hw hvl hcl hb hbl
                simp only [putAll, Act.put, List.setIfInBounds_toArray, List.set_cons_succ, List.set_cons_zero, List.set_nil]
                have fin0 := HK.out
                rw [swapW_pure (by decide) (by decide)] at fin0
                have FIN := Lib.hid fin0
                clear fin0 HW HCL HBB HK
                generalize swapW W0 W1 W2 bs = W at *
                go_wp2_with fail
                have fin := FIN.out
                simp only [List.getD_cons_succ, List.getD_cons_zero, putAll, Act.put, List.setIfInBounds_toArray, List.set_cons_succ, List.set_cons_zero, List.set_nil] at fin
                exact fin
              · rintro vs bs K hvl hbl hcl hb hw hK
                obtain ⟨x0, x1, x2, x3, x4, x5, x6, x7, x8, x9, x10, x11, x12, x13, x14, x15, x16, x17, rfl⟩ := len18 hvl
                have HK := Lib.hid hK
                have HW := Lib.hid hw
                have HCL := Lib.hid hcl
                have HBB := Lib.hid (And.intro hb hbl)
                clear hK hw hvl hcl hb hbl
                simp only [putAll, Act.put, List.setIfInBounds_toArray, List.set_cons_succ, List.set_cons_zero, List.set_nil]
                have fin0 := HK.out
                rw [swapW_pure (by decide) (by decide)] at fin0
                have FIN := Lib.hid fin0
                clear fin0 HW HCL HBB HK
                generalize swapW W0 W1 W2 bs = W at *
                go_wp2_with fail
                have fin := FIN.out
                simp only [List.getD_cons_succ, List.getD_cons_zero, putAll, Act.put, List.setIfInBounds_toArray, List.set_cons_succ, List.set_cons_zero, List.set_nil] at fin
                exact fin
              · rintro vs bs K hvl hbl hcl hb hw hK
                obtain ⟨x0, x1, x2, x3, x4, x5, x6, x7, x8, x9, x10, x11, x12, x13, x14, x15, x16, x17, rfl⟩ := len18 hvl
                have HK := Lib.hid hK
                have HW := Lib.hid hw
                have HCL := Lib.hid hcl
                have HBB := Lib.hid (And.intro hb hbl)
                clear hK hw hvl hcl hb hbl
                obtain rfl : x3 = .int .i64 (j : Int) := st_get (HW.out ⟨3, .data⟩ (by simp) rfl).2 rfl rfl
                simp only [putAll, Act.put, List.setIfInBounds_toArray, List.set_cons_succ, List.set_cons_zero, List.set_nil]
                have fin0 := HK.out
                rw [swapW_pure (by decide) (by decide)] at fin0
                have FIN := Lib.hid fin0
                clear fin0 HW HCL HBB HK
                generalize swapW W0 W1 W2 bs = W at *
                go_wp2_with fail
                have fin := FIN.out
                simp only [List.getD_cons_succ, List.getD_cons_zero, putAll, Act.put, List.setIfInBounds_toArray, List.set_cons_succ, List.set_cons_zero, List.set_nil] at fin
                exact fin
              · rintro vs bs K hvl hbl hcl hb hw hK
                obtain ⟨x0, x1, x2, x3, x4, x5, x6, x7, x8, x9, x10, x11, x12, x13, x14, x15, x16, x17, rfl⟩ := len18 hvl
                have HK := Lib.hid hK
                have HW := Lib.hid hw
                have HCL := Lib.hid hcl
                have HBB := Lib.hid (And.intro hb hbl)
                clear hK hw hvl hcl hb hbl
                simp only [putAll, Act.put, List.setIfInBounds_toArray, List.set_cons_succ, List.set_cons_zero, List.set_nil]
                have fin0 := HK.out
                rw [swapW_pure (by decide) (by decide)] at fin0
                have FIN := Lib.hid fin0
                clear fin0 HW HCL HBB HK
                generalize swapW W0 W1 W2 bs = W at *
                go_wp2_with fail
                have fin := FIN.out
                simp only [List.getD_cons_succ, List.getD_cons_zero, putAll, Act.put, List.setIfInBounds_toArray, List.set_cons_succ, List.set_cons_zero, List.set_nil] at fin
                exact fin
              · rintro vs bs K hvl hbl hcl hb hw hK
                obtain ⟨x0, x1, x2, x3, x4, x5, x6, x7, x8, x9, x10, x11, x12, x13, x14, x15, x16, x17, rfl⟩ := len18 hvl
                have HK := Lib.hid hK
                have HW := Lib.hid hw
                have HCL := Lib.hid hcl
                have HBB := Lib.hid (And.intro hb hbl)
                clear hK hw hvl hcl hb hbl
                simp only [putAll, Act.put, List.setIfInBounds_toArray, List.set_cons_succ, List.set_cons_zero, List.set_nil]
                have fin0 := HK.out
                rw [swapW_pure (by decide) (by decide)] at fin0
                have FIN := Lib.hid fin0
                clear fin0 HW HCL HBB HK
                generalize swapW W0 W1 W2 bs = W at *
                go_wp2_with fail
                have fin := FIN.out
                simp only [List.getD_cons_succ, List.getD_cons_zero, putAll, Act.put, List.setIfInBounds_toArray, List.set_cons_succ, List.set_cons_zero, List.set_nil] at fin
                exact fin
              · rintro vs bs K hvl hbl hcl hb hw hK
                obtain ⟨x0, x1, x2, x3, x4, x5, x6, x7, x8, x9, x10, x11, x12, x13, x14, x15, x16, x17, rfl⟩ := len18 hvl
                have HK := Lib.hid hK
                have HW := Lib.hid hw
                have HCL := Lib.hid hcl
                have HBB := Lib.hid (And.intro hb hbl)
                clear hK hw hvl hcl hb hbl
                obtain rfl : x6 = .int .i64 (j : Int) := st_get (HW.out ⟨6, .data⟩ (by simp) rfl).2 rfl rfl
                simp only [putAll, Act.put, List.setIfInBounds_toArray, List.set_cons_succ, List.set_cons_zero, List.set_nil]
                have fin0 := HK.out
                rw [swapW_pure (by decide) (by decide)] at fin0
                have FIN := Lib.hid fin0
                clear fin0 HW HCL HBB HK
                generalize swapW W0 W1 W2 bs = W at *
                go_wp2_with fail
                have fin := FIN.out
                simp only [List.getD_cons_succ, List.getD_cons_zero, putAll, Act.put, List.setIfInBounds_toArray, List.set_cons_succ, List.set_cons_zero, List.set_nil] at fin
                exact fin
              · rintro vs bs K hvl hbl hcl hb hw hK
                obtain ⟨x0, x1, x2, x3, x4, x5, x6, x7, x8, x9, x10, x11, x12, x13, x14, x15, x16, x17, rfl⟩ := len18 hvl
                have HK := Lib.hid hK
                have HW := Lib.hid hw
                have HCL := Lib.hid hcl
                have HBB := Lib.hid (And.intro hb hbl)
                clear hK hw hvl hcl hb hbl
                obtain rfl : x5 = .slice (some ⟨g, 0, none⟩) N c := st_get (HW.out ⟨5, .data⟩ (by simp) rfl).2 rfl rfl
                obtain rfl : x7 = .int .i64 (jm : Int) := st_get (HW.out ⟨7, .data⟩ (by simp) rfl).2 rfl rfl
                simp only [putAll, Act.put, List.setIfInBounds_toArray, List.set_cons_succ, List.set_cons_zero, List.set_nil]
                have fin0 := HK.out
                rw [swapW_pure (by decide) (by decide)] at fin0
                have FIN := Lib.hid fin0
                clear fin0 HW HCL HBB HK
                generalize swapW W0 W1 W2 bs = W at *
                go_wp2_with fail
                have fin := FIN.out
                simp only [List.getD_cons_succ, List.getD_cons_zero, putAll, Act.put, List.setIfInBounds_toArray, List.set_cons_succ, List.set_cons_zero, List.set_nil] at fin
                exact fin
              · rintro vs bs K hvl hbl hcl hb hw hK
                obtain ⟨x0, x1, x2, x3, x4, x5, x6, x7, x8, x9, x10, x11, x12, x13, x14, x15, x16, x17, rfl⟩ := len18 hvl
                have HK := Lib.hid hK
                have HW := Lib.hid hw
                have HCL := Lib.hid hcl
                have HBB := Lib.hid (And.intro hb hbl)
                clear hK hw hvl hcl hb hbl
                obtain rfl : x8 = .pointer (some ⟨g, jm * 2, none⟩) := st_get (HW.out ⟨8, .data⟩ (by simp) rfl).2 rfl rfl
                simp only [putAll, Act.put, List.setIfInBounds_toArray, List.set_cons_succ, List.set_cons_zero, List.set_nil]
                have n15 : bs[15]? ≠ some true := fun h => by
                  have := HCL.out 15 _ rfl h ⟨9, .data⟩ (by simp) rfl
                  rw [HBB.out.1] at this; cases this
                have n17 : bs[17]? ≠ some true := fun h => n15 (HCL.out 17 _ rfl h ⟨15, .chain⟩ (by simp) rfl)
                have e0 : swapW W0 W1 W2 bs = W0 := swapW_0 n15 n17
                have fin0 := HK.out
                rw [swapW_pure (by decide) (by decide), e0] at fin0
                have FIN := Lib.hid fin0
                rw [e0]
                clear fin0 e0 n15 n17 HW HCL HBB HK
                obtain ⟨k0, k1, k2, k3⟩ := C0.out
                go_wp2_with fail
                have fin := FIN.out
                simp only [List.getD_cons_succ, List.getD_cons_zero, putAll, Act.put, List.setIfInBounds_toArray, List.set_cons_succ, List.set_cons_zero, List.set_nil] at fin
                exact fin
              · rintro vs bs K hvl hbl hcl hb hw hK
                obtain ⟨x0, x1, x2, x3, x4, x5, x6, x7, x8, x9, x10, x11, x12, x13, x14, x15, x16, x17, rfl⟩ := len18 hvl
                have HK := Lib.hid hK
                have HW := Lib.hid hw
                have HCL := Lib.hid hcl
                have HBB := Lib.hid (And.intro hb hbl)
                clear hK hw hvl hcl hb hbl
                simp only [putAll, Act.put, List.setIfInBounds_toArray, List.set_cons_succ, List.set_cons_zero, List.set_nil]
                have fin0 := HK.out
                rw [swapW_pure (by decide) (by decide)] at fin0
                have FIN := Lib.hid fin0
                clear fin0 HW HCL HBB HK
                generalize swapW W0 W1 W2 bs = W at *
                go_wp2_with fail
                have fin := FIN.out
                simp only [List.getD_cons_succ, List.getD_cons_zero, putAll, Act.put, List.setIfInBounds_toArray, List.set_cons_succ, List.set_cons_zero, List.set_nil] at fin
                exact fin
              · rintro vs bs K hvl hbl hcl hb hw hK
                obtain ⟨x0, x1, x2, x3, x4, x5, x6, x7, x8, x9, x10, x11, x12, x13, x14, x15, x16, x17, rfl⟩ := len18 hvl
                have HK := Lib.hid hK
                have HW := Lib.hid hw
                have HCL := Lib.hid hcl
                have HBB := Lib.hid (And.intro hb hbl)
                clear hK hw hvl hcl hb hbl
                simp only [putAll, Act.put, List.setIfInBounds_toArray, List.set_cons_succ, List.set_cons_zero, List.set_nil]
                have fin0 := HK.out
                rw [swapW_pure (by decide) (by decide)] at fin0
                have FIN := Lib.hid fin0
                clear fin0 HW HCL HBB HK
                generalize swapW W0 W1 W2 bs = W at *
                go_wp2_with fail
                have fin := FIN.out
                simp only [List.getD_cons_succ, List.getD_cons_zero, putAll, Act.put, List.setIfInBounds_toArray, List.set_cons_succ, List.set_cons_zero, List.set_nil] at fin
                exact fin
              · rintro vs bs K hvl hbl hcl hb hw hK
                obtain ⟨x0, x1, x2, x3, x4, x5, x6, x7, x8, x9, x10, x11, x12, x13, x14, x15, x16, x17, rfl⟩ := len18 hvl
                have HK := Lib.hid hK
                have HW := Lib.hid hw
                have HCL := Lib.hid hcl
                have HBB := Lib.hid (And.intro hb hbl)
                clear hK hw hvl hcl hb hbl
                obtain rfl : x10 = .slice (some ⟨g, 0, none⟩) N c := st_get (HW.out ⟨10, .data⟩ (by simp) rfl).2 rfl rfl
                obtain rfl : x11 = .int .i64 (j : Int) := st_get (HW.out ⟨11, .data⟩ (by simp) rfl).2 rfl rfl
                simp only [putAll, Act.put, List.setIfInBounds_toArray, List.set_cons_succ, List.set_cons_zero, List.set_nil]
                have fin0 := HK.out
                rw [swapW_pure (by decide) (by decide)] at fin0
                have FIN := Lib.hid fin0
                clear fin0 HW HCL HBB HK
                generalize swapW W0 W1 W2 bs = W at *
                go_wp2_with fail
                have fin := FIN.out
                simp only [List.getD_cons_succ, List.getD_cons_zero, putAll, Act.put, List.setIfInBounds_toArray, List.set_cons_succ, List.set_cons_zero, List.set_nil] at fin
                exact fin
              · rintro vs bs K hvl hbl hcl hb hw hK
                obtain ⟨x0, x1, x2, x3, x4, x5, x6, x7, x8, x9, x10, x11, x12, x13, x14, x15, x16, x17, rfl⟩ := len18 hvl
                have HK := Lib.hid hK
                have HW := Lib.hid hw
                have HCL := Lib.hid hcl
                have HBB := Lib.hid (And.intro hb hbl)
                clear hK hw hvl hcl hb hbl
                obtain rfl : x12 = .pointer (some ⟨g, j * 2, none⟩) := st_get (HW.out ⟨12, .data⟩ (by simp) rfl).2 rfl rfl
                simp only [putAll, Act.put, List.setIfInBounds_toArray, List.set_cons_succ, List.set_cons_zero, List.set_nil]
                have n15 : bs[15]? ≠ some true := fun h => by
                  have := HCL.out 15 _ rfl h ⟨13, .phase⟩ (by simp) rfl
                  rw [HBB.out.1] at this; cases this
                have n17 : bs[17]? ≠ some true := fun h => n15 (HCL.out 17 _ rfl h ⟨15, .chain⟩ (by simp) rfl)
                have e0 : swapW W0 W1 W2 bs = W0 := swapW_0 n15 n17
                have fin0 := HK.out
                rw [swapW_pure (by decide) (by decide), e0] at fin0
                have FIN := Lib.hid fin0
                rw [e0]
                clear fin0 e0 n15 n17 HW HCL HBB HK
                obtain ⟨k0, k1, k2, k3⟩ := C0.out
                go_wp2_with fail
                have fin := FIN.out
                simp only [List.getD_cons_succ, List.getD_cons_zero, putAll, Act.put, List.setIfInBounds_toArray, List.set_cons_succ, List.set_cons_zero, List.set_nil] at fin
                exact fin
              · rintro vs bs K hvl hbl hcl hb hw hK
                obtain ⟨x0, x1, x2, x3, x4, x5, x6, x7, x8, x9, x10, x11, x12, x13, x14, x15, x16, x17, rfl⟩ := len18 hvl
                have HK := Lib.hid hK
                have HW := Lib.hid hw
                have HCL := Lib.hid hcl
                have HBB := Lib.hid (And.intro hb hbl)
                clear hK hw hvl hcl hb hbl
                obtain rfl : x0 = .slice (some ⟨g, 0, none⟩) N c := st_get (HW.out ⟨0, .data⟩ (by simp) rfl).2 rfl rfl
                obtain rfl : x1 = .int .i64 (j : Int) := st_get (HW.out ⟨1, .data⟩ (by simp) rfl).2 rfl rfl
                simp only [putAll, Act.put, List.setIfInBounds_toArray, List.set_cons_succ, List.set_cons_zero, List.set_nil]
                have fin0 := HK.out
                rw [swapW_pure (by decide) (by decide)] at fin0
                have FIN := Lib.hid fin0
                clear fin0 HW HCL HBB HK
                generalize swapW W0 W1 W2 bs = W at *
                go_wp2_with fail
                have fin := FIN.out
                simp only [List.getD_cons_succ, List.getD_cons_zero, putAll, Act.put, List.setIfInBounds_toArray, List.set_cons_succ, List.set_cons_zero, List.set_nil] at fin
                exact fin
              · rintro vs bs K hvl hbl hcl hb hw hK
                obtain ⟨x0, x1, x2, x3, x4, x5, x6, x7, x8, x9, x10, x11, x12, x13, x14, x15, x16, x17, rfl⟩ := len18 hvl
                have HK := Lib.hid hK
                have HW := Lib.hid hw
                have HCL := Lib.hid hcl
                have HBB := Lib.hid (And.intro hb hbl)
                clear hK hw hvl hcl hb hbl
                obtain rfl : x14 = .pointer (some ⟨g, j * 2, none⟩) := st_get (HW.out ⟨14, .data⟩ (by simp) rfl).2 rfl rfl
                obtain rfl : x9 = .agg #[.int .i64 b1, .int .i64 b2] := st_get (HW.out ⟨9, .data⟩ (by simp) rfl).2 rfl rfl
                simp only [putAll, Act.put, List.setIfInBounds_toArray, List.set_cons_succ, List.set_cons_zero, List.set_nil]
                have n15 : bs[15]? ≠ some true := fun h => by rw [HBB.out.1] at h; cases h
                have n17 : bs[17]? ≠ some true := fun h => n15 (HCL.out 17 _ rfl h ⟨15, .chain⟩ (by simp) rfl)
                have e0 : swapW W0 W1 W2 bs = W0 := swapW_0 n15 n17
                have fin0 := HK.out
                rw [swapW_1 (by rw [List.getElem?_set_self (by rw [HBB.out.2]; omega)]) (by rw [List.getElem?_set_ne (by decide)]; exact n17), HW1.out] at fin0
                have FIN := Lib.hid fin0
                rw [e0]
                clear fin0 e0 n15 n17 HW HCL HBB HK
                obtain ⟨k0, k1, k2, k3⟩ := C0.out
                have f0 := FZ0.out (j * 2)
                have f1 := FZ0.out (j * 2 + 1)
                go_wp2_with fail
                have fin := FIN.out
                simp only [List.getD_cons_succ, List.getD_cons_zero, putAll, Act.put, List.setIfInBounds_toArray, List.set_cons_succ, List.set_cons_zero, List.set_nil] at fin
                exact fin
              · rintro vs bs K hvl hbl hcl hb hw hK
                obtain ⟨x0, x1, x2, x3, x4, x5, x6, x7, x8, x9, x10, x11, x12, x13, x14, x15, x16, x17, rfl⟩ := len18 hvl
                have HK := Lib.hid hK
                have HW := Lib.hid hw
                have HCL := Lib.hid hcl
                have HBB := Lib.hid (And.intro hb hbl)
                clear hK hw hvl hcl hb hbl
                obtain rfl : x2 = .slice (some ⟨g, 0, none⟩) N c := st_get (HW.out ⟨2, .data⟩ (by simp) rfl).2 rfl rfl
                obtain rfl : x4 = .int .i64 (jm : Int) := st_get (HW.out ⟨4, .data⟩ (by simp) rfl).2 rfl rfl
                simp only [putAll, Act.put, List.setIfInBounds_toArray, List.set_cons_succ, List.set_cons_zero, List.set_nil]
                have fin0 := HK.out
                rw [swapW_pure (by decide) (by decide)] at fin0
                have FIN := Lib.hid fin0
                clear fin0 HW HCL HBB HK
                generalize swapW W0 W1 W2 bs = W at *
                go_wp2_with fail
                have fin := FIN.out
                simp only [List.getD_cons_succ, List.getD_cons_zero, putAll, Act.put, List.setIfInBounds_toArray, List.set_cons_succ, List.set_cons_zero, List.set_nil] at fin
                exact fin
              · rintro vs bs K hvl hbl hcl hb hw hK
                obtain ⟨x0, x1, x2, x3, x4, x5, x6, x7, x8, x9, x10, x11, x12, x13, x14, x15, x16, x17, rfl⟩ := len18 hvl
                have HK := Lib.hid hK
                have HW := Lib.hid hw
                have HCL := Lib.hid hcl
                have HBB := Lib.hid (And.intro hb hbl)
                clear hK hw hvl hcl hb hbl
                obtain rfl : x16 = .pointer (some ⟨g, jm * 2, none⟩) := st_get (HW.out ⟨16, .data⟩ (by simp) rfl).2 rfl rfl
                obtain rfl : x13 = .agg #[.int .i64 a1, .int .i64 a2] := st_get (HW.out ⟨13, .data⟩ (by simp) rfl).2 rfl rfl
                simp only [putAll, Act.put, List.setIfInBounds_toArray, List.set_cons_succ, List.set_cons_zero, List.set_nil]
                have p15 : bs[15]? = some true := (HW.out ⟨15, .chain⟩ (by simp) rfl).1
                have n17 : bs[17]? ≠ some true := fun h => by rw [HBB.out.1] at h; cases h
                have e0 : swapW W0 W1 W2 bs = W1 := swapW_1 p15 n17
                have fin0 := HK.out
                rw [swapW_2 (by rw [List.getElem?_set_self (by rw [HBB.out.2]; omega)]), HW2.out] at fin0
                have FIN := Lib.hid fin0
                rw [e0]
                clear fin0 e0 p15 n17 HW HCL HBB HK
                obtain ⟨⟨y0, k0⟩, ⟨y1, k1⟩⟩ := C1.out
                have f0 := FZ1.out (jm * 2)
                have f1 := FZ1.out (jm * 2 + 1)
                go_wp2_with fail
                have fin := FIN.out
                simp only [List.getD_cons_succ, List.getD_cons_zero, putAll, Act.put, List.setIfInBounds_toArray, List.set_cons_succ, List.set_cons_zero, List.set_nil] at fin
                exact fin
            case fin =>
              rw [swapW_2 (by simp)]
              simp only [putAll, Act.put, List.setIfInBounds_toArray, List.set_cons_succ, List.set_cons_zero, List.set_nil]
              go_wp2_with fail
              refine ⟨⟨jm, _, by simp, by omega, HU, HO3, HB3⟩, ?_⟩
              simp [intOf]; omega
    · have hd : decide ((i : Int) < (N : Int)) = false := decide_eq_false (by omega)
      obtain rfl : i = N := by omega
      go_wp2_with fail
      go_end0
      exact ⟨⟨_, rfl⟩, L, HS.out.1, HS.out.2, HO.out, HB.out⟩
end Go.Proofs.Ytlehddifcjklgaa
