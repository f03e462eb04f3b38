import Derived.Test.YtbhlddfjfcmncaaZh
import Derived.Maps.OwnIn
import Derived.Maps.OwnSet
import Derived.RangeFuncNested
import Derived.RangeFuncBound
import Derived.RangeFuncCalls
import Derived.RangeFuncLeaves
import Derived.Shelf.Abstract
import Derived.Shelf.RegionOpen
import Derived.WalkKit
import Derived.OwnWalkIn
import Derived.TacticsInMore
import Derived.LoopNIn
import Derived.LoopIn
import Derived.WalkSpells
import Derived.WalkLawsBesides
import Derived.BigQuiet
import Derived.Deep.QuietTactic
import Derived.Lib.Hide
import Derived.Deep.RegionHeld3
import Derived.StillTailTactics
import Derived.Lib.MakeNoZero
import Derived.Laws.CopyOwn
import Derived.Deep.RegionLaw
import Derived.Deep.LoopGhost
import Derived.Deep.CutBlock
import Derived.Deep.DeepCutAuto
import Derived.Lib.IndexAny
namespace Go.Proofs.Ytbhlddfjfcmncaa
open Go.RowKit Go.Shelf
attribute [local go_sem] Oper.semAt_some
theorem enc_bo (l : List Bool) : ∀ u ∈ l.map encBo, u.oneCell' = true := fun u hu => by
  obtain ⟨c, _, rfl⟩ := List.mem_map.1 hu; rfl
theorem refEnough_self (f r : ByteArray) (w : World) (z1 : f.size ≤ 60) (z2 : r.size ≤ 60) (z3 : 1 ≤ r.size) :
    Calls Try.prog 86 #[.agg #[.string f, .string r], .agg #[.string f, .string r]] w fun e w' => e = .returned (.int .i64 (enoughN f r f r)) ∧ Below w.heap.size w w' :=
  refEnough_any f r f r w z1 z3 z2 z1 z3 z2
set_option maxRecDepth 100000 in
set_option maxHeartbeats 1000000 in
theorem refLater_any (f r : ByteArray) (n : Nat) (w : World) (ht : tideB (f, r) = true) (hn : n ≤ 60) (a b : ByteArray) (c : Bool) (hv : formedV (laterB f r n) = .tuple #[.agg #[.string a, .string b], .bool c]) :
    Calls Try.prog 47 #[.agg #[.string f, .string r], .int .i64 n] w fun e w' => e = .returned (.tuple #[.agg #[.string a, .string b], .bool c]) ∧ Below w.heap.size w w' := by
  obtain ⟨z1, z2, z3⟩ := tideB_size ht
  obtain ⟨n1, n2⟩ := enough_self (f := f) z3
  have n3 := enough_le z1 z3 z2 z1 z3 z2
  have C1 : Hid (∀ W, Calls Try.prog 86 #[.agg #[.string f, .string r], .agg #[.string f, .string r]] W fun e w' => e = .returned (.int .i64 (enoughN f r f r)) ∧ Below W.heap.size W w') := Lib.hid (fun W => refEnough_self f r W z1 z2 z3)
  have LN : Hid ((laterB f r n).length = n + enoughN f r f r) := Lib.hid (by unfold laterB; simp [hoursL_length])
  have LE : Hid ((List.replicate n false).map encBo ++ (hoursL (hasB f r) (enoughN f r f r)).map encBo = (laterB f r n).map encBo) := Lib.hid (by unfold laterB; rw [List.map_append])
  have LH := Lib.hid (hoursL_length (hasB f r) (enoughN f r f r))
  have C2 : Hid (∀ W, Calls Try.prog 85 #[.agg #[.string f, .string r], .int .i64 (enoughN f r f r)] W fun e w' => ∃ g cap : Nat, e = .returned (.slice (some ⟨g, 0, none⟩) (enoughN f r f r) cap) ∧ enoughN f r f r ≤ cap ∧ AtBo w' g 0 (hoursL (hasB f r) (enoughN f r f r)) ∧ W.heap.size < g ∧ g < w'.heap.size ∧ (∀ i, w'.frozen? ⟨g, i, none⟩ = false) ∧ Below W.heap.size W w') := Lib.hid (fun W => refHours_any f r _ W z3 (by omega) (by omega))
  generalize hoursL (hasB f r) (enoughN f r f r) = l at *
  generalize enoughN f r f r = N at *
  have C3 : Hid (∀ W g cap, AtBo W g 0 (laterB f r n) → g < W.heap.size → n + N ≤ cap → Calls Try.prog 84 #[.slice (some ⟨g, 0, none⟩) (n + N) cap] W fun e w' => e = .returned (.tuple #[.agg #[.string a, .string b], .bool c]) ∧ Below W.heap.size W w') := Lib.hid (fun W g cap h1 h2 h3 => by
    have := refFormed_any g (n + N) cap (laterB f r n) W LN.out (by omega) (by omega) h3 h1 h2
    rw [hv] at this; exact this)
  clear hv ht n1
  have hmk := fun w => make_bools n (by omega) w
  go_enter Try.func47, Try.ntmps47
  go_wp2_with fail
  obtain ⟨W0, hW0⟩ : ∃ W0, W0 = ((w.alloc (.cells #[.string f, .string r] 24)).alloc (.cells #[.string { data := #[] }, .string { data := #[] }] 24)).alloc (.cells (Array.replicate n (.bool false)) 4) := ⟨_, rfl⟩
  have B0 : Hid (Below w.heap.size w W0) := Lib.hid (by rw [hW0]; exact (((Below.refl _ _).alloc (Nat.le_refl _) _).alloc (by simp) _).alloc (by simp; omega) _)
  have s0 : W0.heap.size = w.heap.size + 3 := by rw [hW0, size_al, size_al, size_al]
  have c0 : W0.cell? ⟨w.heap.size, 0, none⟩ = some (.string f) := by rw [hW0]; simp [cell_al]; (intro h; omega)
  have c1 : W0.cell? ⟨w.heap.size, 1, none⟩ = some (.string r) := by rw [hW0]; simp [cell_al]; (intro h; omega)
  have cH : Hid (∀ i (h : i < ((List.replicate n false).map encBo).length), W0.cell? ⟨w.heap.size + 2, 0 + i, none⟩ = some ((List.replicate n false).map encBo)[i]) := Lib.hid fun i h => by
    rw [hW0, cell_al, if_pos (by rw [size_al, size_al]), Nat.zero_add]
    have h' : i < n := by simpa using h
    simp [h', encBo]
  have lt : w.heap.size + 1 < W0.heap.size := by omega
  have lt2 : w.heap.size < W0.heap.size := by omega
  have lt3 : w.heap.size + 2 < W0.heap.size := by omega
  have KEEP : Hid (∀ W, Below W0.heap.size W0 W → w.heap.size + 1 < W.heap.size ∧ W.cell? ⟨w.heap.size + 1, 0, none⟩ = some (.string { data := #[] }) ∧ W.cell? ⟨w.heap.size + 1, 1, none⟩ = some (.string { data := #[] }) ∧ W.frozen? ⟨w.heap.size + 1, 0, none⟩ = false ∧ W.frozen? ⟨w.heap.size + 1, 1, none⟩ = false) :=
    Lib.hid (fun W h => ⟨Nat.lt_of_lt_of_le lt h.size, below_at h lt (by rw [hW0]; simp [cell_al]), below_at h lt (by rw [hW0]; simp [cell_al]), (h.frozen (p := ⟨w.heap.size + 1, 0, none⟩) lt).trans (by rw [hW0]; simp [frozen_al]), (h.frozen (p := ⟨w.heap.size + 1, 1, none⟩) lt).trans (by rw [hW0]; simp [frozen_al])⟩)
  have AP : Hid (∀ W g2 c2, Below W0.heap.size W0 W → AtBo W g2 0 l → ∃ cap cs w', (∀ ty, (Builtin.append_ #[78, 78] ty #[.slice (some ⟨w.heap.size + 1 + 1, 0, none⟩) n n, .slice (some ⟨g2, 0, none⟩) N c2]).run Try.prog W = .ok (.slice (some ⟨W.heap.size, 0, none⟩) (n + N) cap) w') ∧ n + N ≤ cap ∧ AtBo w' W.heap.size 0 (laterB f r n) ∧ W.heap.size < w'.heap.size ∧ Below W.heap.size W w' ∧ cs = 0) := Lib.hid (fun W g2 c2 hB hat => by
    obtain ⟨cap, cs, w4, hap, hcap, hrow4, hb4⟩ := append_new 78 4 (.bool false) 1 Try.underlying78 infoBool W (w.heap.size + 2) 0 n N g2 0 c2 ((List.replicate n false).map encBo) (l.map encBo) (by simp) (by simpa using LH.out)
      (fun i hi => below_at hB (by omega) (cH.out i hi)) (fun i hi => by have := hat i (by simpa using hi); rw [this]; simp [encBo]) (enc_bo _) (by omega) (by omega) (by omega)
    rw [LE.out] at hrow4
    exact ⟨cap, 0, w4, hap, hcap, fun i hi => by rw [Nat.zero_add, row_cells hrow4 i (by simpa using hi)]; simp [encBo], hrow4.lt, hb4, rfl⟩)
  rw [← hW0]
  have S0 := Lib.hid s0
  clear hW0 cH LE LH LN hmk s0
  have edr : W0.drew.heap.size = W0.heap.size := rfl
  have BB : Below W0.heap.size W0 W0.drew := (Below.refl _ _).drew
  have SS : Hid (∀ W, Below W0.heap.size W0 W → W.cell? ⟨w.heap.size, 0, none⟩ = some (.string f) ∧ W.cell? ⟨w.heap.size, 1, none⟩ = some (.string r)) :=
        Lib.hid (fun W h => ⟨below_at h lt2 c0, below_at h lt2 c1⟩)
  have S2 : Hid (∀ W x y, Below W0.heap.size W0 W → ((W.setCell ⟨w.heap.size + 1, 0, none⟩ x).setCell ⟨w.heap.size + 1, 1, none⟩ y).cell? ⟨w.heap.size, 0, none⟩ = some (.string f) ∧ ((W.setCell ⟨w.heap.size + 1, 0, none⟩ x).setCell ⟨w.heap.size + 1, 1, none⟩ y).cell? ⟨w.heap.size, 1, none⟩ = some (.string r)) := Lib.hid (fun W x y h => by
    obtain ⟨h1, h2⟩ := SS.out W h
    exact ⟨(World.cell?_setCell_other _ _ _ _ (by simp)).trans ((World.cell?_setCell_other _ _ _ _ (by simp)).trans h1), (World.cell?_setCell_other _ _ _ _ (by simp)).trans ((World.cell?_setCell_other _ _ _ _ (by simp)).trans h2)⟩)
  go_region_held3 (fun W => W.cell? ⟨w.heap.size, 0, none⟩ = some (.string f) ∧ W.cell? ⟨w.heap.size, 1, none⟩ = some (.string r))
    (first
      | exact SS.out _ BB
      | exact S2.out _ _ _ BB)
    (first
      | (go_at_call 86; refine (C1.out _).mono ?_; rintro e wa ⟨rfl, hb⟩; replace BB := Below.andThen BB hb (Nat.le_refl _))
      | (go_at_call 85; refine (C2.out _).mono ?_; rintro e wa ⟨g, cap, rfl, hcap, hat, hg1, hg2, hg3, hb⟩; replace BB := Below.andThen BB hb (Nat.le_refl _); have ap := AP.out _ g cap BB hat; obtain ⟨cap2, cs2, w4, hap, hcap2, hat2, hlt2, hb2, _⟩ := ap)
      | (refine step_append_run rfl _ _ 78 rfl _ _ _ _ rfl rfl hap ?_; replace BB := Below.andThen BB hb2 (Nat.le_refl _))
      | (go_at_call 84; refine (C3.out _ _ _ hat2 hlt2 hcap2).mono ?_; rintro e wa ⟨rfl, hb⟩; replace BB := Below.andThen BB hb (Nat.le_refl _); have kk := KEEP.out _ BB; obtain ⟨kl, l0, l1, l2, l3⟩ := kk))
  all_goals
    have T := Lib.hid (B0.out.trans (BB.mono (by have := S0.out; omega)))
    clear C1 C2 C3 AP SS S2 KEEP hap hat hat2
    go_wp2_with fail
    exact bodyPost_ret (v := .tuple #[.agg #[.string a, .string b], .bool c]) (by simp [results, Try.results47, go_sem, *]) rfl ⟨rfl, (T.out.setCell (p := ⟨w.heap.size + 1, 0, none⟩) (by dsimp only; omega) _).setCell (p := ⟨w.heap.size + 1, 1, none⟩) (by dsimp only; omega) _⟩
theorem rowV_cases (Y : Nat → Bool) (K D : Nat) (x y : Value) : (∃ a b : ByteArray, rowV Y K D x y = .tuple #[.agg #[.string a, .string b], x]) ∨ rowV Y K D x y = .tuple #[.agg #[.string { data := #[] }, .string { data := #[] }], y] := by
  unfold rowV; split
  · exact .inl ⟨_, _, rfl⟩
  · exact .inr rfl
/-- two calls that come to the same form, or to none -/
theorem two_rows {Y : Nat → Bool} {K D : Nat} {u v : Value} (hu : u = rowV Y K D (.int .i64 0) (.int .i64 8)) (hv : v = rowV Y K D (.bool true) (.bool false)) :
    (∃ a b : ByteArray, u = .tuple #[.agg #[.string a, .string b], .int .i64 0] ∧ v = .tuple #[.agg #[.string a, .string b], .bool true]) ∨
    (u = .tuple #[.agg #[.string { data := #[] }, .string { data := #[] }], .int .i64 8] ∧ v = .tuple #[.agg #[.string { data := #[] }, .string { data := #[] }], .bool false]) := by
  subst hu hv
  unfold rowV
  split
  · exact .inl ⟨_, _, rfl, rfl⟩
  · exact .inr ⟨rfl, rfl⟩
theorem later_cases (f r : ByteArray) (n : Nat) (ht : tideB (f, r) = true) (hn : n ≤ 60) :
    (∃ a b : ByteArray, (∀ W, Calls Try.prog 28 #[.agg #[.string f, .string r], .int .i64 n] W fun e w' => e = .returned (.tuple #[.agg #[.string a, .string b], .int .i64 0]) ∧ Below W.heap.size W w') ∧
      (∀ W, Calls Try.prog 47 #[.agg #[.string f, .string r], .int .i64 n] W fun e w' => e = .returned (.tuple #[.agg #[.string a, .string b], .bool true]) ∧ Below W.heap.size W w')) ∨
    ((∀ W, Calls Try.prog 28 #[.agg #[.string f, .string r], .int .i64 n] W fun e w' => e = .returned (.tuple #[.agg #[.string { data := #[] }, .string { data := #[] }], .int .i64 8]) ∧ Below W.heap.size W w') ∧
      (∀ W, Calls Try.prog 47 #[.agg #[.string f, .string r], .int .i64 n] W fun e w' => e = .returned (.tuple #[.agg #[.string { data := #[] }, .string { data := #[] }], .bool false]) ∧ Below W.heap.size W w')) := by
  obtain ⟨K, D, hF, h1, h2⟩ := later_made ht n hn
  rcases two_rows (u := laterV f r n) h1 h2 with ⟨a, b, e1, e2⟩ | ⟨e1, e2⟩
  · refine .inl ⟨a, b, fun W => ?_, fun W => refLater_any f r n W ht hn a b true e2⟩
    have := Later_ok f r n W ht hn; rw [e1] at this; exact this
  · refine .inr ⟨fun W => ?_, fun W => refLater_any f r n W ht hn _ _ false e2⟩
    have := Later_ok f r n W ht hn; rw [e1] at this; exact this
end Go.Proofs.Ytbhlddfjfcmncaa
