import Derived.Test.YtlehddifcjklgaaEe
import Derived.Test.YtlehddifcjklgaaTs
import Derived.Maps.OwnIn
import Derived.Maps.OwnSet
import Derived.Maps.AppendAt
import Derived.RangeFuncNested
import Derived.RangeFuncBound
import Derived.RangeFuncCalls
import Derived.RangeFuncLeaves
import Derived.Shelf.Abstract
import Derived.Shelf.RegionOpen
import Derived.WalkKit
import Derived.OwnWalkIn
import Derived.TacticsInMore
import Derived.LoopNIn
import Derived.LoopIn
import Derived.WalkMore
import Derived.Sort.QuietThIn
import Derived.Sort.QuietTacIn
import Derived.Sort.BigQuietIn
import Derived.WalkSpells
import Derived.WalkLawsBesides
import Derived.BigQuiet
import Derived.Deep.QuietTactic
import Derived.Lib.Hide
import Derived.Deep.RegionHeld3
import Derived.StillTailTactics
import Derived.Deep.LoopGhost
import Derived.Lib.IndexAny
namespace Go.Proofs.Ytlehddifcjklgaa
open Go.RowKit Go.Shelf
attribute [local go_sem] Oper.semAt_some
/-- a world that changes with the operations s1 and s2 -/
def swapG (s1 s2 : Nat) (W0 W1 W2 : World) (bs : List Bool) : World := if bs[s2]? = some true then W2 else if bs[s1]? = some true then W1 else W0
theorem swapG_pure {s1 s2 : Nat} {W0 W1 W2 : World} {bs : List Bool} {i : Nat} (h1 : i ≠ s1) (h2 : i ≠ s2) : swapG s1 s2 W0 W1 W2 (bs.set i true) = swapG s1 s2 W0 W1 W2 bs := by
  unfold swapG; rw [List.getElem?_set_ne h1, List.getElem?_set_ne h2]
theorem swapG_0 {s1 s2 : Nat} {W0 W1 W2 : World} {bs : List Bool} (h1 : bs[s1]? ≠ some true) (h2 : bs[s2]? ≠ some true) : swapG s1 s2 W0 W1 W2 bs = W0 := by
  unfold swapG; rw [if_neg h2, if_neg h1]
theorem swapG_1 {s1 s2 : Nat} {W0 W1 W2 : World} {bs : List Bool} (h1 : bs[s1]? = some true) (h2 : bs[s2]? ≠ some true) : swapG s1 s2 W0 W1 W2 bs = W1 := by
  unfold swapG; rw [if_neg h2, if_pos h1]
theorem swapG_2 {s1 s2 : Nat} {W0 W1 W2 : World} {bs : List Bool} (h2 : bs[s2]? = some true) : swapG s1 s2 W0 W1 W2 bs = W2 := by
  unfold swapG; rw [if_pos h2]
theorem len16 {vs : List Value} (h : vs.length = 16) : ∃ x0 x1 x2 x3 x4 x5 x6 x7 x8 x9 x10 x11 x12 x13 x14 x15, vs = [x0, x1, x2, x3, x4, x5, x6, x7, x8, x9, x10, x11, x12, x13, x14, x15] := by
  match vs, h with
  | [x0, x1, x2, x3, x4, x5, x6, x7, x8, x9, x10, x11, x12, x13, x14, x15], _ => exact ⟨_, _, _, _, _, _, _, _, _, _, _, _, _, _, _, _, rfl⟩
/-- two points exchanged -/
def exch (L : List Pt) (i j : Nat) : List Pt := (L.set i (ptAt L j)).set j (ptAt L i)
theorem exch_len (L : List Pt) (i j : Nat) : (exch L i j).length = L.length := by unfold exch; rw [List.length_set, List.length_set]
theorem exch_at {L : List Pt} {i j : Nat} (hi : i < L.length) (hj : j < L.length) (_h : i ≠ j) (k : Nat) : ptAt (exch L i j) k = if k = j then ptAt L i else if k = i then ptAt L j else ptAt L k := by
  unfold exch
  show ((L.set i (ptAt L j)).set j (ptAt L i)).getD k (0, 0) = _
  rw [List.getD_eq_getElem?_getD]
  by_cases h1 : k = j
  · subst h1; rw [List.getElem?_set_self (by rw [List.length_set]; omega), if_pos rfl]; rfl
  · rw [List.getElem?_set_ne (fun e => h1 e.symm), if_neg h1]
    by_cases h2 : k = i
    · subst h2; rw [List.getElem?_set_self hi, if_pos rfl]; rfl
    · rw [List.getElem?_set_ne (fun e => h2 e.symm), if_neg h2]
      unfold ptAt; rw [List.getD_eq_getElem?_getD]
/-- the outer k points on both sides have changed places -/
def Half2 (ps L : List Pt) (k : Nat) : Prop := L.length = ps.length ∧ ∀ t, t < ps.length → ptAt L t = if t < k ∨ ps.length - 1 - k < t then ptAt ps (ps.length - 1 - t) else ptAt ps t
theorem Half2.start (ps : List Pt) : Half2 ps ps 0 := ⟨rfl, fun t ht => by rw [if_neg (by omega)]⟩
theorem Half2.step {ps L : List Pt} {k : Nat} (h : Half2 ps L k) (hk : k < ps.length - 1 - k) : Half2 ps (exch L k (ps.length - 1 - k)) (k + 1) := by
  have hL := h.1
  refine ⟨by rw [exch_len, hL], fun t ht => ?_⟩
  rw [exch_at (by omega) (by omega) (by omega)]
  have hk1 := h.2 k (by omega)
  have hk2 := h.2 (ps.length - 1 - k) (by omega)
  rw [if_neg (by omega)] at hk1 hk2
  by_cases h1 : t = ps.length - 1 - k
  · rw [if_pos h1, if_pos (by omega), hk1]; congr 1; omega
  · rw [if_neg h1]
    by_cases h2 : t = k
    · rw [if_pos h2, if_pos (by omega), hk2, h2]
    · rw [if_neg h2, h.2 t ht]
      by_cases h3 : t < k ∨ ps.length - 1 - k < t
      · rw [if_pos h3, if_pos (by omega)]
      · rw [if_neg h3, if_neg (by omega)]
theorem Half2.stop {ps L : List Pt} {k : Nat} (h : Half2 ps L k) (hk : ps.length - 1 - k ≤ k) (hk2 : k ≤ ps.length - 1) : L = ps.reverse := by
  refine List.ext_getElem (by rw [h.1, List.length_reverse]) fun t h1 h2 => ?_
  have ht : t < ps.length := by rw [← h.1]; exact h1
  have e := h.2 t ht
  rw [ptAt_lt h1] at e
  rw [e, List.getElem_reverse, ← ptAt_lt]
  split
  · rfl
  · congr 1; omega
theorem grown_set (w : World) (a : Addr) (u : Value) : w.grownBy (w.setCell a u) (some a.block) := ⟨rfl, rfl, rfl, by simp [World.setCell], fun k _ h => Below.heap_setCell _ _ _ _ (fun e => h (by rw [e]))⟩
theorem grown_drew (w : World) (row : Option Nat) : w.grownBy w.drew row := ⟨rfl, rfl, rfl, Nat.le_refl _, fun _ _ _ => rfl⟩
set_option maxRecDepth 100000 in
set_option maxHeartbeats 4000000 in
theorem reverse_any (ps : List Pt) (g c n₀ : Nat) (w : World) (ho : OwnG w n₀ g c ps) (_hn0 : n₀ ≤ w.heap.size) (h1 : 1 ≤ ps.length) (h12 : ps.length ≤ 12) :
    Calls Try.prog 89 #[.slice (some ⟨g, 0, none⟩) ps.length c] w fun e w' => (∃ v, e = .returned v) ∧ OwnG w' n₀ g c ps.reverse ∧ Below n₀ w w' ∧ w.grownBy w' (some g) := by
  obtain ⟨N, hN⟩ : ∃ N, ps.length = N := ⟨_, rfl⟩
  have HN := Lib.hid hN
  have HO := Lib.hid ho
  rw [hN] at h1 h12 ⊢
  have e0 : IntKind.i64.wrap ((N : Int) - 1) = (N : Int) - 1 := i64_of _ (by omega) (by omega)
  clear hN ho
  go_enter Try.func89, Try.ntmps89
  go_wp2_with fail
  go_loopw [2, 3] (fun i jv wr => ∃ (k : Nat) (L : List Pt), i = .int .i64 (k : Int) ∧ jv = .int .i64 ((N : Int) - 1 - (k : Int)) ∧ k ≤ N - 1 ∧ Hid (Half2 ps L k) ∧ Hid (OwnG wr n₀ g c L) ∧ Hid (Below n₀ w wr ∧ w.grownBy wr (some g))) (fun i _ _ => N - (intOf i).toNat)
  case atStart => exact ⟨0, ps, rfl, by simp, by omega, Lib.hid (Half2.start ps), HO, Lib.hid ⟨Below.refl _ _, ⟨rfl, rfl, rfl, Nat.le_refl _, fun _ _ _ => rfl⟩⟩⟩
  case round =>
    clear HO
    obtain ⟨k, L, rfl, rfl, hkN, HS, HO, HB⟩ := hrel
    by_cases hlt : k < N - 1 - k
    · have hd : decide ((k : Int) < (N : Int) - 1 - (k : Int)) = true := decide_eq_true (by omega)
      obtain ⟨j, hj⟩ : ∃ j, N - 1 - k = j := ⟨_, rfl⟩
      have ej : (N : Int) - 1 - (k : Int) = (j : Int) := by omega
      have hLN : L.length = N := by rw [HS.out.1, HN.out]
      have hne : L ≠ [] := fun h => by rw [h] at hLN; simp at hLN; omega
      obtain ⟨hpt, hcc, hg0⟩ := HO.out.pts hne
      have hkn : k < L.length := by omega
      have hjn : j < L.length := by omega
      have xj := hpt.x j hjn
      have yj := hpt.y j hjn
      have xk := hpt.x k hkn
      have yk := hpt.y k hkn
      rw [Nat.zero_add] at xj yj xk yk
      rw [← ptAt_lt hjn] at xj yj
      rw [← ptAt_lt hkn] at xk yk
      have HSTP := Lib.hid (show Half2 ps (exch L k j) (k + 1) by
        have h := HS.out.step (by rw [HN.out]; exact hlt)
        rw [HN.out, hj] at h; exact h)
      have HSW := Lib.hid (show exch L k j = (L.set k (ptAt L j)).set j (ptAt L k) from rfl)
      have HJ := Lib.hid (And.intro hkn hjn)
      have en : (N : Int) - 1 - ((k + 1 : Nat) : Int) = (j : Int) - 1 := by omega
      have EN := Lib.hid en
      have ew : IntKind.i64.wrap ((j : Int) - 1) = (j : Int) - 1 := i64_of _ (by omega) (by omega)
      generalize ptAt L k = pa at *
      generalize ptAt L j = pb at *
      obtain ⟨a1, a2⟩ := pa
      obtain ⟨b1, b2⟩ := pb
      dsimp only at xj yj xk yk
      rw [ej] at hd ⊢
      have C2 := Lib.hid (And.intro xk (And.intro yk (And.intro xj yj)))
      have hlt2 : k < j := by omega
      have hjN : j ≤ N - 1 := by omega
      clear hpt hLN hne xj yj xk yk hkn hjn HS hj en ej
      go_wp2_with fail
      obtain ⟨W0, hW0⟩ : ∃ W0, W0 = wr.drew := ⟨_, rfl⟩
      have HW0 := Lib.hid hW0
      have O0 : OwnG W0 n₀ g c L := by rw [hW0]; exact own_grow HO.out ((Below.refl wr.heap.size wr).drew)
      have C0 := Lib.hid (show W0.cell? ⟨g, k * 2, none⟩ = some (.int .i64 a1) ∧ W0.cell? ⟨g, k * 2 + 1, none⟩ = some (.int .i64 a2) ∧ W0.cell? ⟨g, j * 2, none⟩ = some (.int .i64 b1) ∧ W0.cell? ⟨g, j * 2 + 1, none⟩ = some (.int .i64 b2) by rw [hW0]; exact C2.out)
      have FZ0 := Lib.hid (fun i => O0.frozen i)
      have O1 := O0.set k HJ.out.1 b1 b2
      obtain ⟨W1, hW1⟩ : ∃ W1, W1 = (W0.setCell ⟨g, k * 2, none⟩ (.int .i64 b1)).setCell ⟨g, k * 2 + 1, none⟩ (.int .i64 b2) := ⟨_, rfl⟩
      have HW1 := Lib.hid hW1
      rw [← hW1] at O1
      have FZ1 := Lib.hid (fun i => O1.frozen i)
      have hl1 : j < (L.set k (b1, b2)).length := by rw [List.length_set]; exact HJ.out.2
      have hne1 : (L.set k (b1, b2)) ≠ [] := fun h => by rw [h] at hl1; simp at hl1
      have C1 := Lib.hid (show (∃ v, W1.cell? ⟨g, j * 2, none⟩ = some v) ∧ (∃ v, W1.cell? ⟨g, j * 2 + 1, none⟩ = some v) by
        obtain ⟨hp1, _, _⟩ := O1.pts hne1
        have h1 := hp1.x j hl1
        have h2 := hp1.y j hl1
        rw [Nat.zero_add] at h1 h2
        exact ⟨⟨_, h1⟩, ⟨_, h2⟩⟩)
      have O2 := O1.set j hl1 a1 a2
      obtain ⟨W2, hW2⟩ : ∃ W2, W2 = (W1.setCell ⟨g, j * 2, none⟩ (.int .i64 a1)).setCell ⟨g, j * 2 + 1, none⟩ (.int .i64 a2) := ⟨_, rfl⟩
      have HW2 := Lib.hid hW2
      rw [← hW2, ← HSW.out] at O2
      have HO3 := Lib.hid O2
      have HB3a : Below n₀ w W2 := by
        rw [hW2]
        refine Below.setCell (p := ⟨g, j * 2 + 1, none⟩) (Below.setCell (p := ⟨g, j * 2, none⟩) ?_ hg0 _) hg0 _
        rw [hW1]
        refine Below.setCell (p := ⟨g, k * 2 + 1, none⟩) (Below.setCell (p := ⟨g, k * 2, none⟩) ?_ hg0 _) hg0 _
        rw [hW0]; exact HB.out.1.drew
      have HB3b : w.grownBy W2 (some g) := by
        rw [hW2, hW1, hW0]
        exact ((((HB.out.2.trans (grown_drew wr (some g))).trans (grown_set _ ⟨g, k * 2, none⟩ _)).trans (grown_set _ ⟨g, k * 2 + 1, none⟩ _)).trans (grown_set _ ⟨g, j * 2, none⟩ _)).trans (grown_set _ ⟨g, j * 2 + 1, none⟩ _)
      have HB3 := Lib.hid (And.intro HB3a HB3b)
      clear HB3a HB3b
      clear hW0 hW1 hW2 O0 O1 O2 hl1 hne1 HO HB C2 HSW HJ
      refine wp_region_st (by kernel_rfl) (by kernel_rfl) [14, 15, 16, 17, 18, 19, 20, 21, 22, 23, 24, 25, 26, 40, 27, 41] [.slice (some ⟨g, 0, none⟩) N c, .int .i64 (k : Int), .slice (some ⟨g, 0, none⟩) N c, .int .i64 (j : Int), .slice (some ⟨g, 0, none⟩) N c, .int .i64 (j : Int), .pointer (some ⟨g, j * 2, none⟩), .agg #[.int .i64 b1, .int .i64 b2], .slice (some ⟨g, 0, none⟩) N c, .int .i64 (k : Int), .pointer (some ⟨g, k * 2, none⟩), .agg #[.int .i64 a1, .int .i64 a2], .pointer (some ⟨g, k * 2, none⟩), undef, .pointer (some ⟨g, j * 2, none⟩), undef] (swapG 13 15 W0 W1 W2) 16 rfl rfl ⟨[u14, u15, u16, u17, u18, u19, u20, u21, u22, u23, u24, u25, u26, undef, u27, undef], by simp only [putAll, Act.put, List.setIfInBounds_toArray, List.set_cons_succ, List.set_cons_zero, List.set_nil], rfl⟩ (by rw [swapG_0 (by simp) (by simp), HW0.out]) ?steps ?fin
      case steps =>
        simp only [stSteps]
        refine ⟨?_, ?_, ?_, ?_, ?_, ?_, ?_, ?_, ?_, ?_, ?_, ?_, ?_, ?_, ?_, ?_, trivial⟩
        · rintro vs bs K hvl hbl hcl hb hw hK
          obtain ⟨x0, x1, x2, x3, x4, x5, x6, x7, x8, x9, x10, x11, x12, x13, x14, x15, rfl⟩ := len16 hvl
          have HK := Lib.hid hK
          have HW := Lib.hid hw
          have HCL := Lib.hid hcl
          have HBB := Lib.hid (And.intro hb hbl)
          clear hK hw hvl hcl hb hbl
          simp only [putAll, Act.put, List.setIfInBounds_toArray, List.set_cons_succ, List.set_cons_zero, List.set_nil]
          have fin0 := HK.out
          rw [swapG_pure (by decide) (by decide)] at fin0
          have FIN := Lib.hid fin0
          clear fin0 HW HCL HBB HK
          generalize swapG 13 15 W0 W1 W2 bs = W at *
          go_wp2_with fail
          have fin := FIN.out
          simp only [List.getD_cons_zero, putAll, Act.put, List.setIfInBounds_toArray, List.set_cons_succ, List.set_cons_zero, List.set_nil] at fin
          exact fin
        · rintro vs bs K hvl hbl hcl hb hw hK
          obtain ⟨x0, x1, x2, x3, x4, x5, x6, x7, x8, x9, x10, x11, x12, x13, x14, x15, rfl⟩ := len16 hvl
          have HK := Lib.hid hK
          have HW := Lib.hid hw
          have HCL := Lib.hid hcl
          have HBB := Lib.hid (And.intro hb hbl)
          clear hK hw hvl hcl hb hbl
          simp only [putAll, Act.put, List.setIfInBounds_toArray, List.set_cons_succ, List.set_cons_zero, List.set_nil]
          have fin0 := HK.out
          rw [swapG_pure (by decide) (by decide)] at fin0
          have FIN := Lib.hid fin0
          clear fin0 HW HCL HBB HK
          generalize swapG 13 15 W0 W1 W2 bs = W at *
          go_wp2_with fail
          have fin := FIN.out
          simp only [List.getD_cons_succ, List.getD_cons_zero, putAll, Act.put, List.setIfInBounds_toArray, List.set_cons_succ, List.set_cons_zero, List.set_nil] at fin
          exact fin
        · rintro vs bs K hvl hbl hcl hb hw hK
          obtain ⟨x0, x1, x2, x3, x4, x5, x6, x7, x8, x9, x10, x11, x12, x13, x14, x15, rfl⟩ := len16 hvl
          have HK := Lib.hid hK
          have HW := Lib.hid hw
          have HCL := Lib.hid hcl
          have HBB := Lib.hid (And.intro hb hbl)
          clear hK hw hvl hcl hb hbl
          simp only [putAll, Act.put, List.setIfInBounds_toArray, List.set_cons_succ, List.set_cons_zero, List.set_nil]
          have fin0 := HK.out
          rw [swapG_pure (by decide) (by decide)] at fin0
          have FIN := Lib.hid fin0
          clear fin0 HW HCL HBB HK
          generalize swapG 13 15 W0 W1 W2 bs = W at *
          go_wp2_with fail
          have fin := FIN.out
          simp only [List.getD_cons_succ, List.getD_cons_zero, putAll, Act.put, List.setIfInBounds_toArray, List.set_cons_succ, List.set_cons_zero, List.set_nil] at fin
          exact fin
        · rintro vs bs K hvl hbl hcl hb hw hK
          obtain ⟨x0, x1, x2, x3, x4, x5, x6, x7, x8, x9, x10, x11, x12, x13, x14, x15, rfl⟩ := len16 hvl
          have HK := Lib.hid hK
          have HW := Lib.hid hw
          have HCL := Lib.hid hcl
          have HBB := Lib.hid (And.intro hb hbl)
          clear hK hw hvl hcl hb hbl
          simp only [putAll, Act.put, List.setIfInBounds_toArray, List.set_cons_succ, List.set_cons_zero, List.set_nil]
          have fin0 := HK.out
          rw [swapG_pure (by decide) (by decide)] at fin0
          have FIN := Lib.hid fin0
          clear fin0 HW HCL HBB HK
          generalize swapG 13 15 W0 W1 W2 bs = W at *
          go_wp2_with fail
          have fin := FIN.out
          simp only [List.getD_cons_succ, List.getD_cons_zero, putAll, Act.put, List.setIfInBounds_toArray, List.set_cons_succ, List.set_cons_zero, List.set_nil] at fin
          exact fin
        · rintro vs bs K hvl hbl hcl hb hw hK
          obtain ⟨x0, x1, x2, x3, x4, x5, x6, x7, x8, x9, x10, x11, x12, x13, x14, x15, rfl⟩ := len16 hvl
          have HK := Lib.hid hK
          have HW := Lib.hid hw
          have HCL := Lib.hid hcl
          have HBB := Lib.hid (And.intro hb hbl)
          clear hK hw hvl hcl hb hbl
          simp only [putAll, Act.put, List.setIfInBounds_toArray, List.set_cons_succ, List.set_cons_zero, List.set_nil]
          have fin0 := HK.out
          rw [swapG_pure (by decide) (by decide)] at fin0
          have FIN := Lib.hid fin0
          clear fin0 HW HCL HBB HK
          generalize swapG 13 15 W0 W1 W2 bs = W at *
          go_wp2_with fail
          have fin := FIN.out
          simp only [List.getD_cons_succ, List.getD_cons_zero, putAll, Act.put, List.setIfInBounds_toArray, List.set_cons_succ, List.set_cons_zero, List.set_nil] at fin
          exact fin
        · rintro vs bs K hvl hbl hcl hb hw hK
          obtain ⟨x0, x1, x2, x3, x4, x5, x6, x7, x8, x9, x10, x11, x12, x13, x14, x15, rfl⟩ := len16 hvl
          have HK := Lib.hid hK
          have HW := Lib.hid hw
          have HCL := Lib.hid hcl
          have HBB := Lib.hid (And.intro hb hbl)
          clear hK hw hvl hcl hb hbl
          simp only [putAll, Act.put, List.setIfInBounds_toArray, List.set_cons_succ, List.set_cons_zero, List.set_nil]
          have fin0 := HK.out
          rw [swapG_pure (by decide) (by decide)] at fin0
          have FIN := Lib.hid fin0
          clear fin0 HW HCL HBB HK
          generalize swapG 13 15 W0 W1 W2 bs = W at *
          go_wp2_with fail
          have fin := FIN.out
          simp only [List.getD_cons_succ, List.getD_cons_zero, putAll, Act.put, List.setIfInBounds_toArray, List.set_cons_succ, List.set_cons_zero, List.set_nil] at fin
          exact fin
        · rintro vs bs K hvl hbl hcl hb hw hK
          obtain ⟨x0, x1, x2, x3, x4, x5, x6, x7, x8, x9, x10, x11, x12, x13, x14, x15, rfl⟩ := len16 hvl
          have HK := Lib.hid hK
          have HW := Lib.hid hw
          have HCL := Lib.hid hcl
          have HBB := Lib.hid (And.intro hb hbl)
          clear hK hw hvl hcl hb hbl
          obtain rfl : x4 = .slice (some ⟨g, 0, none⟩) N c := st_get (HW.out ⟨4, .data⟩ (by simp) rfl).2 rfl rfl
          obtain rfl : x5 = .int .i64 (j : Int) := st_get (HW.out ⟨5, .data⟩ (by simp) rfl).2 rfl rfl
          simp only [putAll, Act.put, List.setIfInBounds_toArray, List.set_cons_succ, List.set_cons_zero, List.set_nil]
          have fin0 := HK.out
          rw [swapG_pure (by decide) (by decide)] at fin0
          have FIN := Lib.hid fin0
          clear fin0 HW HCL HBB HK
          generalize swapG 13 15 W0 W1 W2 bs = W at *
          go_wp2_with fail
          have fin := FIN.out
          simp only [List.getD_cons_succ, List.getD_cons_zero, putAll, Act.put, List.setIfInBounds_toArray, List.set_cons_succ, List.set_cons_zero, List.set_nil] at fin
          exact fin
        · rintro vs bs K hvl hbl hcl hb hw hK
          obtain ⟨x0, x1, x2, x3, x4, x5, x6, x7, x8, x9, x10, x11, x12, x13, x14, x15, rfl⟩ := len16 hvl
          have HK := Lib.hid hK
          have HW := Lib.hid hw
          have HCL := Lib.hid hcl
          have HBB := Lib.hid (And.intro hb hbl)
          clear hK hw hvl hcl hb hbl
          obtain rfl : x6 = .pointer (some ⟨g, j * 2, none⟩) := st_get (HW.out ⟨6, .data⟩ (by simp) rfl).2 rfl rfl
          simp only [putAll, Act.put, List.setIfInBounds_toArray, List.set_cons_succ, List.set_cons_zero, List.set_nil]
          have n13 : bs[13]? ≠ some true := fun h => by
            have := HCL.out 13 _ rfl h ⟨7, .data⟩ (by simp) rfl
            rw [HBB.out.1] at this; cases this
          have n15 : bs[15]? ≠ some true := fun h => n13 (HCL.out 15 _ rfl h ⟨13, .chain⟩ (by simp) rfl)
          have e0 : swapG 13 15 W0 W1 W2 bs = W0 := swapG_0 n13 n15
          have fin0 := HK.out
          rw [swapG_pure (by decide) (by decide), e0] at fin0
          have FIN := Lib.hid fin0
          rw [e0]
          clear fin0 e0 n13 n15 HW HCL HBB HK
          obtain ⟨k0, k1, k2, k3⟩ := C0.out
          go_wp2_with fail
          have fin := FIN.out
          simp only [List.getD_cons_succ, List.getD_cons_zero, putAll, Act.put, List.setIfInBounds_toArray, List.set_cons_succ, List.set_cons_zero, List.set_nil] at fin
          exact fin
        · rintro vs bs K hvl hbl hcl hb hw hK
          obtain ⟨x0, x1, x2, x3, x4, x5, x6, x7, x8, x9, x10, x11, x12, x13, x14, x15, rfl⟩ := len16 hvl
          have HK := Lib.hid hK
          have HW := Lib.hid hw
          have HCL := Lib.hid hcl
          have HBB := Lib.hid (And.intro hb hbl)
          clear hK hw hvl hcl hb hbl
          simp only [putAll, Act.put, List.setIfInBounds_toArray, List.set_cons_succ, List.set_cons_zero, List.set_nil]
          have fin0 := HK.out
          rw [swapG_pure (by decide) (by decide)] at fin0
          have FIN := Lib.hid fin0
          clear fin0 HW HCL HBB HK
          generalize swapG 13 15 W0 W1 W2 bs = W at *
          go_wp2_with fail
          have fin := FIN.out
          simp only [List.getD_cons_succ, List.getD_cons_zero, putAll, Act.put, List.setIfInBounds_toArray, List.set_cons_succ, List.set_cons_zero, List.set_nil] at fin
          exact fin
        · rintro vs bs K hvl hbl hcl hb hw hK
          obtain ⟨x0, x1, x2, x3, x4, x5, x6, x7, x8, x9, x10, x11, x12, x13, x14, x15, rfl⟩ := len16 hvl
          have HK := Lib.hid hK
          have HW := Lib.hid hw
          have HCL := Lib.hid hcl
          have HBB := Lib.hid (And.intro hb hbl)
          clear hK hw hvl hcl hb hbl
          simp only [putAll, Act.put, List.setIfInBounds_toArray, List.set_cons_succ, List.set_cons_zero, List.set_nil]
          have fin0 := HK.out
          rw [swapG_pure (by decide) (by decide)] at fin0
          have FIN := Lib.hid fin0
          clear fin0 HW HCL HBB HK
          generalize swapG 13 15 W0 W1 W2 bs = W at *
          go_wp2_with fail
          have fin := FIN.out
          simp only [List.getD_cons_succ, List.getD_cons_zero, putAll, Act.put, List.setIfInBounds_toArray, List.set_cons_succ, List.set_cons_zero, List.set_nil] at fin
          exact fin
        · rintro vs bs K hvl hbl hcl hb hw hK
          obtain ⟨x0, x1, x2, x3, x4, x5, x6, x7, x8, x9, x10, x11, x12, x13, x14, x15, rfl⟩ := len16 hvl
          have HK := Lib.hid hK
          have HW := Lib.hid hw
          have HCL := Lib.hid hcl
          have HBB := Lib.hid (And.intro hb hbl)
          clear hK hw hvl hcl hb hbl
          obtain rfl : x8 = .slice (some ⟨g, 0, none⟩) N c := st_get (HW.out ⟨8, .data⟩ (by simp) rfl).2 rfl rfl
          obtain rfl : x9 = .int .i64 (k : Int) := st_get (HW.out ⟨9, .data⟩ (by simp) rfl).2 rfl rfl
          simp only [putAll, Act.put, List.setIfInBounds_toArray, List.set_cons_succ, List.set_cons_zero, List.set_nil]
          have fin0 := HK.out
          rw [swapG_pure (by decide) (by decide)] at fin0
          have FIN := Lib.hid fin0
          clear fin0 HW HCL HBB HK
          generalize swapG 13 15 W0 W1 W2 bs = W at *
          go_wp2_with fail
          have fin := FIN.out
          simp only [List.getD_cons_succ, List.getD_cons_zero, putAll, Act.put, List.setIfInBounds_toArray, List.set_cons_succ, List.set_cons_zero, List.set_nil] at fin
          exact fin
        · rintro vs bs K hvl hbl hcl hb hw hK
          obtain ⟨x0, x1, x2, x3, x4, x5, x6, x7, x8, x9, x10, x11, x12, x13, x14, x15, rfl⟩ := len16 hvl
          have HK := Lib.hid hK
          have HW := Lib.hid hw
          have HCL := Lib.hid hcl
          have HBB := Lib.hid (And.intro hb hbl)
          clear hK hw hvl hcl hb hbl
          obtain rfl : x10 = .pointer (some ⟨g, k * 2, none⟩) := st_get (HW.out ⟨10, .data⟩ (by simp) rfl).2 rfl rfl
          simp only [putAll, Act.put, List.setIfInBounds_toArray, List.set_cons_succ, List.set_cons_zero, List.set_nil]
          have n13 : bs[13]? ≠ some true := fun h => by
            have := HCL.out 13 _ rfl h ⟨11, .phase⟩ (by simp) rfl
            rw [HBB.out.1] at this; cases this
          have n15 : bs[15]? ≠ some true := fun h => n13 (HCL.out 15 _ rfl h ⟨13, .chain⟩ (by simp) rfl)
          have e0 : swapG 13 15 W0 W1 W2 bs = W0 := swapG_0 n13 n15
          have fin0 := HK.out
          rw [swapG_pure (by decide) (by decide), e0] at fin0
          have FIN := Lib.hid fin0
          rw [e0]
          clear fin0 e0 n13 n15 HW HCL HBB HK
          obtain ⟨k0, k1, k2, k3⟩ := C0.out
          go_wp2_with fail
          have fin := FIN.out
          simp only [List.getD_cons_succ, List.getD_cons_zero, putAll, Act.put, List.setIfInBounds_toArray, List.set_cons_succ, List.set_cons_zero, List.set_nil] at fin
          exact fin
        · rintro vs bs K hvl hbl hcl hb hw hK
          obtain ⟨x0, x1, x2, x3, x4, x5, x6, x7, x8, x9, x10, x11, x12, x13, x14, x15, rfl⟩ := len16 hvl
          have HK := Lib.hid hK
          have HW := Lib.hid hw
          have HCL := Lib.hid hcl
          have HBB := Lib.hid (And.intro hb hbl)
          clear hK hw hvl hcl hb hbl
          obtain rfl : x0 = .slice (some ⟨g, 0, none⟩) N c := st_get (HW.out ⟨0, .data⟩ (by simp) rfl).2 rfl rfl
          obtain rfl : x1 = .int .i64 (k : Int) := st_get (HW.out ⟨1, .data⟩ (by simp) rfl).2 rfl rfl
          simp only [putAll, Act.put, List.setIfInBounds_toArray, List.set_cons_succ, List.set_cons_zero, List.set_nil]
          have fin0 := HK.out
          rw [swapG_pure (by decide) (by decide)] at fin0
          have FIN := Lib.hid fin0
          clear fin0 HW HCL HBB HK
          generalize swapG 13 15 W0 W1 W2 bs = W at *
          go_wp2_with fail
          have fin := FIN.out
          simp only [List.getD_cons_succ, List.getD_cons_zero, putAll, Act.put, List.setIfInBounds_toArray, List.set_cons_succ, List.set_cons_zero, List.set_nil] at fin
          exact fin
        · rintro vs bs K hvl hbl hcl hb hw hK
          obtain ⟨x0, x1, x2, x3, x4, x5, x6, x7, x8, x9, x10, x11, x12, x13, x14, x15, rfl⟩ := len16 hvl
          have HK := Lib.hid hK
          have HW := Lib.hid hw
          have HCL := Lib.hid hcl
          have HBB := Lib.hid (And.intro hb hbl)
          clear hK hw hvl hcl hb hbl
          obtain rfl : x12 = .pointer (some ⟨g, k * 2, none⟩) := st_get (HW.out ⟨12, .data⟩ (by simp) rfl).2 rfl rfl
          obtain rfl : x7 = .agg #[.int .i64 b1, .int .i64 b2] := st_get (HW.out ⟨7, .data⟩ (by simp) rfl).2 rfl rfl
          simp only [putAll, Act.put, List.setIfInBounds_toArray, List.set_cons_succ, List.set_cons_zero, List.set_nil]
          have n13 : bs[13]? ≠ some true := fun h => by rw [HBB.out.1] at h; cases h
          have n15 : bs[15]? ≠ some true := fun h => n13 (HCL.out 15 _ rfl h ⟨13, .chain⟩ (by simp) rfl)
          have e0 : swapG 13 15 W0 W1 W2 bs = W0 := swapG_0 n13 n15
          have fin0 := HK.out
          rw [swapG_1 (by rw [List.getElem?_set_self (by rw [HBB.out.2]; omega)]) (by rw [List.getElem?_set_ne (by decide)]; exact n15), HW1.out] at fin0
          have FIN := Lib.hid fin0
          rw [e0]
          clear fin0 e0 n13 n15 HW HCL HBB HK
          obtain ⟨k0, k1, k2, k3⟩ := C0.out
          have f0 := FZ0.out (k * 2)
          have f1 := FZ0.out (k * 2 + 1)
          go_wp2_with fail
          have fin := FIN.out
          simp only [List.getD_cons_succ, List.getD_cons_zero, putAll, Act.put, List.setIfInBounds_toArray, List.set_cons_succ, List.set_cons_zero, List.set_nil] at fin
          exact fin
        · rintro vs bs K hvl hbl hcl hb hw hK
          obtain ⟨x0, x1, x2, x3, x4, x5, x6, x7, x8, x9, x10, x11, x12, x13, x14, x15, rfl⟩ := len16 hvl
          have HK := Lib.hid hK
          have HW := Lib.hid hw
          have HCL := Lib.hid hcl
          have HBB := Lib.hid (And.intro hb hbl)
          clear hK hw hvl hcl hb hbl
          obtain rfl : x2 = .slice (some ⟨g, 0, none⟩) N c := st_get (HW.out ⟨2, .data⟩ (by simp) rfl).2 rfl rfl
          obtain rfl : x3 = .int .i64 (j : Int) := st_get (HW.out ⟨3, .data⟩ (by simp) rfl).2 rfl rfl
          simp only [putAll, Act.put, List.setIfInBounds_toArray, List.set_cons_succ, List.set_cons_zero, List.set_nil]
          have fin0 := HK.out
          rw [swapG_pure (by decide) (by decide)] at fin0
          have FIN := Lib.hid fin0
          clear fin0 HW HCL HBB HK
          generalize swapG 13 15 W0 W1 W2 bs = W at *
          go_wp2_with fail
          have fin := FIN.out
          simp only [List.getD_cons_succ, List.getD_cons_zero, putAll, Act.put, List.setIfInBounds_toArray, List.set_cons_succ, List.set_cons_zero, List.set_nil] at fin
          exact fin
        · rintro vs bs K hvl hbl hcl hb hw hK
          obtain ⟨x0, x1, x2, x3, x4, x5, x6, x7, x8, x9, x10, x11, x12, x13, x14, x15, rfl⟩ := len16 hvl
          have HK := Lib.hid hK
          have HW := Lib.hid hw
          have HCL := Lib.hid hcl
          have HBB := Lib.hid (And.intro hb hbl)
          clear hK hw hvl hcl hb hbl
          obtain rfl : x14 = .pointer (some ⟨g, j * 2, none⟩) := st_get (HW.out ⟨14, .data⟩ (by simp) rfl).2 rfl rfl
          obtain rfl : x11 = .agg #[.int .i64 a1, .int .i64 a2] := st_get (HW.out ⟨11, .data⟩ (by simp) rfl).2 rfl rfl
          simp only [putAll, Act.put, List.setIfInBounds_toArray, List.set_cons_succ, List.set_cons_zero, List.set_nil]
          have p13 : bs[13]? = some true := (HW.out ⟨13, .chain⟩ (by simp) rfl).1
          have n15 : bs[15]? ≠ some true := fun h => by rw [HBB.out.1] at h; cases h
          have e0 : swapG 13 15 W0 W1 W2 bs = W1 := swapG_1 p13 n15
          have fin0 := HK.out
          rw [swapG_2 (by rw [List.getElem?_set_self (by rw [HBB.out.2]; omega)]), HW2.out] at fin0
          have FIN := Lib.hid fin0
          rw [e0]
          clear fin0 e0 p13 n15 HW HCL HBB HK
          obtain ⟨⟨y0, k0⟩, ⟨y1, k1⟩⟩ := C1.out
          have f0 := FZ1.out (j * 2)
          have f1 := FZ1.out (j * 2 + 1)
          go_wp2_with fail
          have fin := FIN.out
          simp only [List.getD_cons_succ, List.getD_cons_zero, putAll, Act.put, List.setIfInBounds_toArray, List.set_cons_succ, List.set_cons_zero, List.set_nil] at fin
          exact fin
      case fin =>
        rw [swapG_2 (by simp)]
        simp only [putAll, Act.put, List.setIfInBounds_toArray, List.set_cons_succ, List.set_cons_zero, List.set_nil]
        go_wp2_with fail
        refine ⟨⟨k + 1, _, by simp, by rw [EN.out], by omega, HSTP, HO3, HB3⟩, ?_⟩
        simp [intOf]; omega
    · have hd : decide ((k : Int) < (N : Int) - 1 - (k : Int)) = false := decide_eq_false (by omega)
      have HE := Lib.hid (HS.out.stop (by rw [HN.out]; omega) (by rw [HN.out]; omega))
      go_wp2_with fail
      go_end0
      exact ⟨⟨_, rfl⟩, by rw [← HE.out]; exact HO.out, HB.out.1, HB.out.2⟩
end Go.Proofs.Ytlehddifcjklgaa
