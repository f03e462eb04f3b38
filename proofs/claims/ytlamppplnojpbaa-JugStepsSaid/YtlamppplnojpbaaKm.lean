import Derived.Test.YtlamppplnojpbaaKl
import Derived.Laws.AppendOwn
import Derived.ChangeKeysEq
import Derived.Maps.RangeWalk
import Derived.Laws.OwnMore
import Derived.Maps.OwnIn
import Derived.Maps.AppendAt
import Derived.RangeFuncNested
import Derived.RangeFuncBound
import Derived.RangeFuncCalls
import Derived.RangeFuncLeaves
import Derived.Shelf.Abstract
import Derived.Shelf.RegionOpen
import Derived.WalkKit
import Derived.WalkMore
import Derived.OwnWalkIn
import Derived.TacticsInMore
import Derived.LoopNIn
import Derived.LoopIn
import Derived.WalkSpells
import Derived.WalkLawsBesides
import Derived.BigQuiet
import Derived.Deep.QuietTactic
import Derived.Lib.Hide
import Derived.Deep.RegionHeld3
import Derived.StillTailTactics
import Derived.Deep.LoopGhost
import Derived.Maps.OwnSet
import Derived.Lib.IndexAny
import Derived.Sort.QuietThIn
import Derived.Sort.QuietTacIn
import Derived.Sort.BigQuietIn
namespace Go.Proofs.Ytlamppplnojpbaa
open Go.RowKit Go.Shelf
attribute [local go_sem] Oper.semAt_some
theorem sli_cells {W : World} {v : Value} {zs : List Int} (h : SlI W v zs) (hz : zs ≠ []) : ∃ b o c, v = .slice (some ⟨b, o, none⟩) zs.length c ∧ zs.length ≤ c ∧ b < W.heap.size ∧ IntsAt W b o zs := by
  obtain ⟨a, c, rfl, hc, hs⟩ := h
  rcases hs with h | ⟨b, o, rfl, hb, hi⟩
  · exact absurd h hz
  · exact ⟨b, o, c, rfl, hc, hb, hi⟩
set_option maxRecDepth 100000 in
set_option maxHeartbeats 1000000 in
/-- no step -/
theorem rStep_none (ss fs : List Int) (v u : Value) (a : Int) (w : World) (hv : SlI w v ss) (hu : SlI w u fs) (ha : -1 ≤ a ∧ a < (ss.length : Int)) (hn : ss.length ≤ 1000) :
    Calls Try.prog 61 #[v, u, .agg #[.int .i64 a, .int .i64 a]] w fun e w' => e = .returned (.tuple #[u, .bool false]) ∧ Below w.heap.size w w' := by
  obtain ⟨va, vc, rfl, _⟩ := hv
  obtain ⟨ua, uc, rfl, _⟩ := hu
  have ba := (Below.refl w.heap.size w).alloc (Nat.le_refl _) (.cells #[.int .i64 a, .int .i64 a] 48)
  have r := Row.new w 48 [.int .i64 a, .int .i64 a]
  have c0 : (w.alloc (.cells #[.int .i64 a, .int .i64 a] 48)).cell? ⟨w.heap.size, 0, none⟩ = some (.int .i64 a) := r.cell 0
  have c1 : (w.alloc (.cells #[.int .i64 a, .int .i64 a] 48)).cell? ⟨w.heap.size, 1, none⟩ = some (.int .i64 a) := r.cell 1
  have BA := Lib.hid ba
  have d1 : decide (a < -1) = false := decide_eq_false (by omega)
  have d2 : decide (a ≥ (ss.length : Int)) = false := decide_eq_false (by omega)
  have d2' : decide ((ss.length : Int) ≤ a) = false := decide_eq_false (by omega)
  clear ba r
  go_enter Try.func61, Try.ntmps61
  go_wp2_with fail
  go_quiet (fail)
  go_wp2_with fail
  go_ret2
  exact ⟨rfl, below_drewN BA.out _⟩
theorem own_slice {W : World} {n₀ n : Nat} {v : Value} {xs : List Value} (h : W.ownsRow n₀ 3 1 v n xs) (hn : 0 < n) : ∃ g cap, v = .slice (some ⟨g, 0, none⟩) n cap ∧ n ≤ cap := by
  rcases h.2 with ⟨_, h0⟩ | ⟨g, cap, cur, hv, _, _, hc, _⟩
  · omega
  · exact ⟨g, cap, hv, hc⟩
theorem own_cell {W : World} {n₀ n g cap : Nat} {zs : List Int} (h : W.ownsRow n₀ 3 1 (.slice (some ⟨g, 0, none⟩) n cap) n (zs.map encI)) (j : Nat) (hj : j < n) : W.cell? ⟨g, j, none⟩ = some (.int .i64 (zs.getD j 0)) ∧ W.frozen? ⟨g, j, none⟩ = false := by
  refine ⟨?_, h.frozenAt j⟩
  have hl : zs.length = n := by have := h.1; rw [List.length_map] at this; omega
  rw [h.cellAt j (by omega), List.getElem?_map, List.getElem?_eq_getElem (by omega), getD_lt (by omega)]; rfl
theorem own_put {W : World} {n₀ n g cap : Nat} {zs : List Int} (h : W.ownsRow n₀ 3 1 (.slice (some ⟨g, 0, none⟩) n cap) n (zs.map encI)) (j : Nat) (x : Int) : (W.setCell ⟨g, j, none⟩ (.int .i64 x)).ownsRow n₀ 3 1 (.slice (some ⟨g, 0, none⟩) n cap) n ((zs.set j x).map encI) := by
  have h2 := (h.stored j (.int .i64 x)).1
  rw [List.map_set]; exact h2
theorem IntsAt.cells {W : World} {b o : Nat} {zs : List Int} (h : IntsAt W b o zs) : ∀ j u, (zs.map encI)[j]? = some u → W.cell? ((⟨b, o, none⟩ : Addr).add j) = some u := fun j u hj => by
  rw [Go.WideShapes.add_plain]
  by_cases hl : j < zs.length
  · rw [List.getElem?_map, List.getElem?_eq_getElem hl] at hj
    cases hj
    exact h.at_ j hl
  · rw [List.getElem?_eq_none (by rw [List.length_map]; omega)] at hj; cases hj
set_option maxRecDepth 100000 in
set_option maxHeartbeats 1000000 in
/-- a jug is filled from the sea -/
theorem rStep_sea (ss fs : List Int) (v u : Value) (b : Nat) (w : World) (hv : SlI w v ss) (hu : SlI w u fs) (n : Nat) (hsl : ss.length = n) (hl : fs.length = n) (hb : b < n) (hn : n ≤ 1000) :
    Calls Try.prog 61 #[v, u, .agg #[.int .i64 (-1), .int .i64 (b : Int)]] w fun e w' => ∃ s, e = .returned (.tuple #[s, .bool true]) ∧ w'.ownsRow w.heap.size 3 1 s n ((afterF ss fs (-1) (b : Int)).map encI) ∧ Below w.heap.size w w' := by
  obtain ⟨i0, hi, hz0, hz1, hz2⟩ := info_parts info3
  obtain ⟨vb, vo, vc, rfl, hvc, hvb, hvi⟩ := sli_cells hv (fun e => by rw [e, List.length_nil] at hsl; omega)
  obtain ⟨ub, uo, uc, rfl, huc, hub, hui⟩ := sli_cells hu (fun e => by rw [e, List.length_nil] at hl; omega)
  have ba := (Below.refl w.heap.size w).alloc (Nat.le_refl _) (.cells #[.int .i64 (-1), .int .i64 (b : Int)] 48)
  have r := Row.new w 48 [.int .i64 (-1), .int .i64 (b : Int)]
  have c0 : (w.alloc (.cells #[.int .i64 (-1), .int .i64 (b : Int)] 48)).cell? ⟨w.heap.size, 0, none⟩ = some (.int .i64 (-1)) := r.cell 0
  have c1 : (w.alloc (.cells #[.int .i64 (-1), .int .i64 (b : Int)] 48)).cell? ⟨w.heap.size, 1, none⟩ = some (.int .i64 (b : Int)) := r.cell 1
  have BA := Lib.hid ba
  have SZ := Lib.hid (size_al w (.cells #[.int .i64 (-1), .int .i64 (b : Int)] 48))
  have HVI := Lib.hid hvi
  have HUI := Lib.hid hui
  have HB0 := Lib.hid (And.intro hvb hub)
  have d1 : decide ((-1 : Int) < -1) = false := by decide
  have d2 : decide ((-1 : Int) ≥ (n : Int)) = false := decide_eq_false (by omega)
  have d3 : decide ((b : Int) < -1) = false := decide_eq_false (by omega)
  have d4 : decide ((b : Int) ≥ (n : Int)) = false := decide_eq_false (by omega)
  have d5 : ((-1 : Int) == (b : Int)) = false := by rw [beq_eq_false_iff_ne]; omega
  have d6 : decide ((-1 : Int) = (b : Int)) = false := decide_eq_false (by omega)
  have hzb : ∃ zb, ss[b]? = some zb ∧ afterF ss fs (-1) (b : Int) = fs.set b zb := ⟨ss[b], List.getElem?_eq_getElem (by omega), by unfold afterF; rw [if_pos rfl, Int.toNat_natCast, getD_lt (by omega)]⟩
  obtain ⟨zb, hzb, hfin⟩ := hzb
  have HFIN := Lib.hid hfin
  have HCB := Lib.hid (fun (W : World) (hb' : Below w.heap.size w W) => show W.cell? ⟨vb, vo + b, none⟩ = some (.int .i64 zb) by
    have h := (hvi.below hb' hvb).at_ b (by omega)
    rw [List.getElem?_eq_getElem (by omega)] at hzb
    rw [h, Option.some.inj hzb])
  clear hzb hfin
  clear ba r hvi hui hvb hub
  have HSN := Lib.hid hsl
  have HFN := Lib.hid hl
  rw [hsl, hl]
  rw [hsl] at hvc
  rw [hl] at huc
  clear hl hsl
  go_enter Try.func61, Try.ntmps61
  go_wp2_with fail
  go_quiet (fail)
  have HBD := Lib.hid (below_drewN BA.out nq)
  clear c0 c1
  go_wp2_with (at_builtin; refine wpList_append_own_at _ rfl _ _ 22 rfl w.heap.size 3 i0 (.int .i64 0) 1 8 Try.underlying22 hi hz0 hz1 hz2 rfl (by decide) (.slice none 0 0) 0 [] rfl (World.ownsRow_nil _ _ _ _) ⟨ub, uo, none⟩ n uc (fs.map encI) rfl (by rw [List.length_map, HFN.out]; omega) (HUI.out.below HBD.out HB0.out.2).cells (fun x hx => by obtain ⟨y, _, rfl⟩ := List.mem_map.1 hx; simp [Value.oneCell', encI]) (by unfold maxLen; omega) (by omega) HBD.out.size ?_; intro v' w2 hown hgrow hnil hat'; have HR2 := Lib.hid (show World.ownsRow w2 w.heap.size 3 1 v' n (fs.map encI) by simpa using hown); have HB2 := Lib.hid (show Below w.heap.size w w2 from HBD.out.grown hgrow HBD.out.size (fun k e => by cases e)); obtain ⟨g7, cap7, hv7, hc7⟩ := own_slice HR2.out (by omega); subst hv7; have cb := HCB.out w2 HB2.out; obtain ⟨cg, cf⟩ := own_cell HR2.out b hb; clear hown hgrow hnil hat')
  go_ret2
  refine ⟨_, rfl, ?_, ?_⟩
  · rw [HFIN.out]; exact own_put HR2.out b zb
  · exact HB2.out.grown (one_set w2 g7 b (.int .i64 zb)) HB2.out.size (fun k e => by cases e; exact (HR2.out.lt g7 rfl).1)
set_option maxRecDepth 100000 in
set_option maxHeartbeats 1000000 in
/-- a jug is emptied into the sea -/
theorem rStep_out (ss fs : List Int) (v u : Value) (a : Nat) (w : World) (hv : SlI w v ss) (hu : SlI w u fs) (n : Nat) (hsl : ss.length = n) (hl : fs.length = n) (hb : a < n) (hn : n ≤ 1000) :
    Calls Try.prog 61 #[v, u, .agg #[.int .i64 (a : Int), .int .i64 (-1)]] w fun e w' => ∃ s, e = .returned (.tuple #[s, .bool true]) ∧ w'.ownsRow w.heap.size 3 1 s n ((afterF ss fs (a : Int) (-1)).map encI) ∧ Below w.heap.size w w' := by
  obtain ⟨i0, hi, hz0, hz1, hz2⟩ := info_parts info3
  obtain ⟨vb, vo, vc, rfl, hvc, hvb, hvi⟩ := sli_cells hv (fun e => by rw [e, List.length_nil] at hsl; omega)
  obtain ⟨ub, uo, uc, rfl, huc, hub, hui⟩ := sli_cells hu (fun e => by rw [e, List.length_nil] at hl; omega)
  have ba := (Below.refl w.heap.size w).alloc (Nat.le_refl _) (.cells #[.int .i64 (a : Int), .int .i64 (-1)] 48)
  have r := Row.new w 48 [.int .i64 (a : Int), .int .i64 (-1)]
  have c0 : (w.alloc (.cells #[.int .i64 (a : Int), .int .i64 (-1)] 48)).cell? ⟨w.heap.size, 0, none⟩ = some (.int .i64 (a : Int)) := r.cell 0
  have c1 : (w.alloc (.cells #[.int .i64 (a : Int), .int .i64 (-1)] 48)).cell? ⟨w.heap.size, 1, none⟩ = some (.int .i64 (-1)) := r.cell 1
  have BA := Lib.hid ba
  have SZ := Lib.hid (size_al w (.cells #[.int .i64 (a : Int), .int .i64 (-1)] 48))
  have HVI := Lib.hid hvi
  have HUI := Lib.hid hui
  have HB0 := Lib.hid (And.intro hvb hub)
  have d1 : decide ((-1 : Int) < -1) = false := by decide
  have d2 : decide ((-1 : Int) ≥ (n : Int)) = false := decide_eq_false (by omega)
  have d3 : decide ((a : Int) < -1) = false := decide_eq_false (by omega)
  have d4 : decide ((a : Int) ≥ (n : Int)) = false := decide_eq_false (by omega)
  have d5 : ((a : Int) == (-1 : Int)) = false := by rw [beq_eq_false_iff_ne]; omega
  have d6 : decide ((a : Int) = (-1 : Int)) = false := decide_eq_false (by omega)
  have hfin : afterF ss fs (a : Int) (-1) = fs.set a 0 := by unfold afterF; rw [if_neg (by omega), if_pos rfl, Int.toNat_natCast]
  have HFIN := Lib.hid hfin
  clear hfin
  clear ba r hvi hui hvb hub
  have HSN := Lib.hid hsl
  have HFN := Lib.hid hl
  rw [hsl, hl]
  rw [hsl] at hvc
  rw [hl] at huc
  clear hl hsl
  go_enter Try.func61, Try.ntmps61
  go_wp2_with fail
  go_quiet (fail)
  have HBD := Lib.hid (below_drewN BA.out nq)
  clear c0 c1
  go_wp2_with (at_builtin; refine wpList_append_own_at _ rfl _ _ 22 rfl w.heap.size 3 i0 (.int .i64 0) 1 8 Try.underlying22 hi hz0 hz1 hz2 rfl (by decide) (.slice none 0 0) 0 [] rfl (World.ownsRow_nil _ _ _ _) ⟨ub, uo, none⟩ n uc (fs.map encI) rfl (by rw [List.length_map, HFN.out]; omega) (HUI.out.below HBD.out HB0.out.2).cells (fun x hx => by obtain ⟨y, _, rfl⟩ := List.mem_map.1 hx; simp [Value.oneCell', encI]) (by unfold maxLen; omega) (by omega) HBD.out.size ?_; intro v' w2 hown hgrow hnil hat'; have HR2 := Lib.hid (show World.ownsRow w2 w.heap.size 3 1 v' n (fs.map encI) by simpa using hown); have HB2 := Lib.hid (show Below w.heap.size w w2 from HBD.out.grown hgrow HBD.out.size (fun k e => by cases e)); obtain ⟨g7, cap7, hv7, hc7⟩ := own_slice HR2.out (by omega); subst hv7; obtain ⟨cg, cf⟩ := own_cell HR2.out a hb; clear hown hgrow hnil hat')
  go_ret2
  refine ⟨_, rfl, ?_, ?_⟩
  · rw [HFIN.out]; exact own_put HR2.out a 0
  · exact HB2.out.grown (one_set w2 g7 a (.int .i64 0)) HB2.out.size (fun k e => by cases e; exact (HR2.out.lt g7 rfl).1)
end Go.Proofs.Ytlamppplnojpbaa
