import Derived.Test.YtlehddifcjklgaaCc
import Derived.Maps.OwnIn
import Derived.Maps.OwnSet
import Derived.Maps.AppendAt
import Derived.RangeFuncNested
import Derived.RangeFuncBound
import Derived.RangeFuncCalls
import Derived.RangeFuncLeaves
import Derived.Shelf.Abstract
import Derived.Shelf.RegionOpen
import Derived.WalkKit
import Derived.OwnWalkIn
import Derived.TacticsInMore
import Derived.LoopNIn
import Derived.LoopIn
import Derived.WalkMore
import Derived.Sort.QuietThIn
import Derived.Sort.QuietTacIn
import Derived.Sort.BigQuietIn
import Derived.WalkSpells
import Derived.WalkLawsBesides
import Derived.BigQuiet
import Derived.Deep.QuietTactic
import Derived.Lib.Hide
import Derived.Deep.RegionHeld3
import Derived.StillTailTactics
import Derived.Deep.LoopGhost
import Derived.Lib.IndexAny
namespace Go.Proofs.Ytlehddifcjklgaa
open Go.RowKit Go.Shelf
attribute [local go_sem] Oper.semAt_some
def pq (p : Pt) : Pt := (p.1 % 18446744073709551616 % 41 - 20, p.2 % 18446744073709551616 % 41 - 20)
theorem pq_raw (q1 q2 : Int) : pq (q1, q2) = ((IntKind.i64.wrap (IntKind.i64.wrap ((IntKind.u64.wrap q1).tmod 41) - 20)), (IntKind.i64.wrap (IntKind.i64.wrap ((IntKind.u64.wrap q2).tmod 41) - 20))) := by
  have t1 : (IntKind.u64.wrap q1).tmod 41 = q1 % 18446744073709551616 % 41 := by rw [u64_wrap]; exact Int.tmod_eq_emod_of_nonneg (by omega)
  have t2 : (IntKind.u64.wrap q2).tmod 41 = q2 % 18446744073709551616 % 41 := by rw [u64_wrap]; exact Int.tmod_eq_emod_of_nonneg (by omega)
  rw [t1, t2, i64_of (q1 % 18446744073709551616 % 41) (by omega) (by omega), i64_of (q2 % 18446744073709551616 % 41) (by omega) (by omega), i64_of (q1 % 18446744073709551616 % 41 - 20) (by omega) (by omega), i64_of (q2 % 18446744073709551616 % 41 - 20) (by omega) (by omega)]
  rfl
theorem pq_in (q : Pt) : inR (pq q) = true := by
  unfold pq; exact inR_true (by omega) (by omega) (by omega) (by omega)
set_option maxRecDepth 100000 in
set_option maxHeartbeats 1000000 in
theorem points_any (ps : List Pt) (a : Option Addr) (c : Nat) (w : World) (hp : PtsA w a ps c) (hl : ps.length ≤ maxLen) (hz : ∀ q ∈ ps, InI q.1 ∧ InI q.2) :
    Calls Try.prog 44 #[.slice a ps.length c] w fun e w' => ∃ v qs, e = .returned v ∧ OwnP w' w.heap.size v qs ∧ (3 ≤ qs.length ∧ qs.length ≤ 12 ∧ ∀ q ∈ qs, inR q = true) ∧ Below w.heap.size w w' := by
  obtain ⟨i0, hi, hz0, hz1, hz2⟩ := info_parts info58
  have HP := Lib.hid hp
  have HZ := Lib.hid hz
  clear hp hz
  have hl63 : (ps.length : Int) ≤ 9223372036854775807 := by unfold maxLen at hl; omega
  go_enter Try.func44, Try.ntmps44
  go_wp2_with fail
  go_loopw [3, 4] (fun v i wr => ∃ k : Nat, k ≤ ps.length ∧ k ≤ 12 ∧ i = .int .i64 (k : Int) ∧ Hid (OwnP wr w.heap.size v ((ps.take k).map pq)) ∧ Hid (Below w.heap.size w wr)) (fun _ i _ => 12 - (intOf i).toNat)
  case atStart => exact ⟨0, by omega, by omega, rfl, Lib.hid (World.ownsRow_nil _ _ _ _), Lib.hid (Below.refl _ _)⟩
  case round =>
    obtain ⟨k, hk, hk12, rfl, HR, HB⟩ := hrel
    by_cases hgo : k < ps.length ∧ k < 12
    · obtain ⟨hlt, h12⟩ := hgo
      have hd : decide ((k : Int) < (ps.length : Int)) = true := decide_eq_true (by omega)
      · have hd2 : decide ((k : Int) < 12) = true := decide_eq_true (by omega)
        obtain ⟨b, o, rfl, hpp, hcc⟩ : ∃ b o, a = some ⟨b, o, none⟩ ∧ PtsAt w b o ps ∧ ps.length ≤ c := by
          rcases HP.out with h | h
          · subst h; simp at hlt
          · exact h
        have hx := hpp.x k hlt
        have hy := hpp.y k hlt
        have hzz := HZ.out _ (List.getElem_mem hlt)
        have HS := Lib.hid (show (ps.take (k + 1)).map pq = (ps.take k).map pq ++ [pq ps[k]] by rw [List.take_succ_eq_append_getElem hlt, List.map_append]; rfl)
        generalize ps[k] = q at *
        obtain ⟨q1, q2⟩ := q
        dsimp only at hx hy hzz
        have hpl := hpp.lt
        clear hpp
        have hpk := pq_raw q1 q2
        rw [hpk] at HS
        clear hpk
        have SS := Lib.hid (show ∀ W, Below w.heap.size w W → W.cell? ⟨b, o + k * 2, none⟩ = some (.int .i64 q1) ∧ W.cell? ⟨b, o + k * 2 + 1, none⟩ = some (.int .i64 q2) from fun W h => ⟨below_at h hpl hx, below_at h hpl hy⟩)
        have BD := Lib.hid (show Below w.heap.size w wr.drew from HB.out.drew)
        have HRD := Lib.hid (own_grow HR.out ((Below.refl wr.heap.size wr).drew))
        clear hx hy hzz
        go_wp2_with fail
        go_region_held3 (fun W => W.cell? ⟨b, o + k * 2, none⟩ = some (.int .i64 q1) ∧ W.cell? ⟨b, o + k * 2 + 1, none⟩ = some (.int .i64 q2))
          (first
            | exact SS.out _ BD.out
            | exact SS.out _ (Below.al BD.out (Nat.le_refl _) _)
            | exact SS.out _ B2.out)
          (first
            | (refine step_append_own rfl _ _ 22 rfl w.heap.size 58 i0 (.agg #[.int .i64 0, .int .i64 0]) 2 16 Try.underlying22 hi hz0 hz1 hz2 rfl (by decide) _ _ _ rfl (World.ownsRow.alloc HRD.out _) _ 1 1 [.int .i64 (IntKind.i64.wrap (IntKind.i64.wrap ((IntKind.u64.wrap q1).tmod 41) - 20)), .int .i64 (IntKind.i64.wrap (IntKind.i64.wrap ((IntKind.u64.wrap q2).tmod 41) - 20))] rfl rfl (cell_two_at _ _ _ _ _ rfl) (by simp [Value.oneCell']) (by rw [List.length_map, List.length_take]; unfold maxLen; omega) (by rw [List.length_map, List.length_take]; omega) (Nat.le_trans BD.out.size (by simp)) ?_; intro v' w2 hown' hgrow hat; have HR2 := Lib.hid hown'; have B2 := Lib.hid (own_belowP HRD.out rfl BD.out (Below.al BD.out (Nat.le_refl _) _) hgrow); clear hown' hgrow hat))
        clear SS BD HRD
        go_wp2_with fail
        go_roundw
        case rel => exact ⟨k + 1, by omega, by omega, rfl, Lib.hid (by rw [HS.out]; have h := HR2.out; unfold OwnP; rw [flat_append, List.length_append]; exact h), B2⟩
        case measure => simp [intOf]; omega
    · have hdd : (decide ((k : Int) < (ps.length : Int)) = false ∧ decide (k < ps.length) = false) ∨ ((decide ((k : Int) < (ps.length : Int)) = true ∧ decide (k < ps.length) = true) ∧ decide ((k : Int) < 12) = false ∧ decide (k < 12) = false) := by
        by_cases h : k < ps.length
        · exact .inr ⟨⟨decide_eq_true (by omega), decide_eq_true h⟩, decide_eq_false (by omega), decide_eq_false (by omega)⟩
        · exact .inl ⟨decide_eq_false (by omega), decide_eq_false h⟩
      have hlen : ((ps.take k).map pq).length = k := by rw [List.length_map, List.length_take]; omega
      have hin : ∀ q ∈ (ps.take k).map pq, inR q = true := fun q hq => by
        obtain ⟨p, _, rfl⟩ := List.mem_map.1 hq
        exact pq_in p
      have HI := Lib.hid (And.intro hlen hin)
      generalize (ps.take k).map pq = qs at *
      clear hgo hlen hin
      obtain ⟨a2, c2, rfl, hop⟩ := HR.out.open
      clear hop
      rcases hdd with ⟨dd, dg⟩ | ⟨⟨dd, dg⟩, de, df⟩
      all_goals
        go_wp2_with fail
        go_loopw [3, 5] (fun v _ wx => ∃ (a2 : Option Addr) (c2 : Nat) (qs : List Pt), v = .slice a2 qs.length c2 ∧ Hid (OwnP wx w.heap.size (.slice a2 qs.length c2) qs) ∧ Hid (qs.length ≤ 12 ∧ ∀ q ∈ qs, inR q = true) ∧ Hid (Below w.heap.size w wx)) (fun v _ _ => 3 - lenOfV v)
        case atStart => exact ⟨a2, c2, qs, rfl, HR, Lib.hid ⟨by rw [HI.out.1]; exact hk12, HI.out.2⟩, HB⟩
        case round =>
          clear HR HI HB
          obtain ⟨a2, c2, qs, rfl, HR, HI, HB⟩ := hrel
          by_cases h3 : qs.length < 3
          · have hL := Lib.hid (show ∀ x y : Int, inR (x, y) = true → (qs ++ [(x, y)]).length ≤ 12 ∧ ∀ q ∈ qs ++ [(x, y)], inR q = true from fun x y h => by
              refine ⟨by rw [List.length_append, List.length_singleton]; omega, fun q hq => ?_⟩
              rcases List.mem_append.1 hq with hq | hq
              · exact HI.out.2 q hq
              · rw [List.mem_singleton.1 hq]; exact h)
            have hA := Lib.hid (show ∀ (W : World) (v : Value) (x y : Int), W.ownsRow w.heap.size 58 2 v (qs.length + 1) (flat qs ++ [.int .i64 x, .int .i64 y]) → OwnP W w.heap.size v (qs ++ [(x, y)]) from fun W v x y h => by
              unfold OwnP; rw [flat_append, List.length_append]; exact h)
            have hll : (qs ++ [((0 : Int), (0 : Int))]).length = qs.length + 1 := by simp
            have hcase : qs.length = 0 ∨ qs.length = 1 ∨ qs.length = 2 := by omega
            obtain ⟨m, hm⟩ : ∃ m, qs.length = m := ⟨_, rfl⟩
            have HM := Lib.hid hm
            rw [hm] at hcase HR
            rw [hm]
            clear hll h3 hm
            rcases hcase with rfl | rfl | rfl
            · go_wp2_with (at_builtin; refine wpList_append_own_at _ rfl _ _ 22 rfl w.heap.size 58 i0 (.agg #[.int .i64 0, .int .i64 0]) 2 16 Try.underlying22 hi hz0 hz1 hz2 rfl (by decide) _ _ _ rfl (World.ownsRow.alloc HR.out _) _ 1 1 [.int .i64 0, .int .i64 0] rfl rfl (cell_two_at _ _ _ _ _ rfl) (by simp [Value.oneCell']) (by have := HM.out; unfold maxLen; omega) (by have := HM.out; omega) (Nat.le_trans HB.out.size (by simp)) ?_; intro v' w2 hown' hgrow hnil hat; have HR2 := Lib.hid (hA.out _ _ _ _ hown'); have B2 := Lib.hid (own_belowP HR.out rfl HB.out (Below.al HB.out (Nat.le_refl _) _) hgrow); clear hown' hgrow hnil hat)
              obtain ⟨a3, c3, rfl, _⟩ := HR2.out.open
              have hl3 : (qs ++ [((0 : Int), (0 : Int))]).length = 1 := by rw [List.length_append, HM.out]; rfl
              refine ⟨⟨a3, c3, _, rfl, HR2, Lib.hid (hL.out 0 0 rfl), B2⟩, ?_⟩
              simp [lenOfV, hl3]
            · go_wp2_with (at_builtin; refine wpList_append_own_at _ rfl _ _ 22 rfl w.heap.size 58 i0 (.agg #[.int .i64 0, .int .i64 0]) 2 16 Try.underlying22 hi hz0 hz1 hz2 rfl (by decide) _ _ _ rfl (World.ownsRow.alloc HR.out _) _ 1 1 [.int .i64 1, .int .i64 1] rfl rfl (cell_two_at _ _ _ _ _ rfl) (by simp [Value.oneCell']) (by have := HM.out; unfold maxLen; omega) (by have := HM.out; omega) (Nat.le_trans HB.out.size (by simp)) ?_; intro v' w2 hown' hgrow hnil hat; have HR2 := Lib.hid (hA.out _ _ _ _ hown'); have B2 := Lib.hid (own_belowP HR.out rfl HB.out (Below.al HB.out (Nat.le_refl _) _) hgrow); clear hown' hgrow hnil hat)
              obtain ⟨a3, c3, rfl, _⟩ := HR2.out.open
              have hl3 : (qs ++ [((1 : Int), (1 : Int))]).length = 2 := by rw [List.length_append, HM.out]; rfl
              refine ⟨⟨a3, c3, _, rfl, HR2, Lib.hid (hL.out 1 1 rfl), B2⟩, ?_⟩
              simp [lenOfV, hl3]
            · go_wp2_with (at_builtin; refine wpList_append_own_at _ rfl _ _ 22 rfl w.heap.size 58 i0 (.agg #[.int .i64 0, .int .i64 0]) 2 16 Try.underlying22 hi hz0 hz1 hz2 rfl (by decide) _ _ _ rfl (World.ownsRow.alloc HR.out _) _ 1 1 [.int .i64 2, .int .i64 4] rfl rfl (cell_two_at _ _ _ _ _ rfl) (by simp [Value.oneCell']) (by have := HM.out; unfold maxLen; omega) (by have := HM.out; omega) (Nat.le_trans HB.out.size (by simp)) ?_; intro v' w2 hown' hgrow hnil hat; have HR2 := Lib.hid (hA.out _ _ _ _ hown'); have B2 := Lib.hid (own_belowP HR.out rfl HB.out (Below.al HB.out (Nat.le_refl _) _) hgrow); clear hown' hgrow hnil hat)
              obtain ⟨a3, c3, rfl, _⟩ := HR2.out.open
              have hl3 : (qs ++ [((2 : Int), (4 : Int))]).length = 3 := by rw [List.length_append, HM.out]; rfl
              refine ⟨⟨a3, c3, _, rfl, HR2, Lib.hid (hL.out 2 4 rfl), B2⟩, ?_⟩
              simp [lenOfV, hl3]
          · have d1 : decide ((qs.length : Int) < 3) = false := decide_eq_false (by omega)
            have d2 : decide (qs.length < 3) = false := decide_eq_false h3
            go_wp2_with fail
            go_ret
            exact ⟨_, qs, rfl, HR.out, ⟨by omega, HI.out.1, HI.out.2⟩, HB.out⟩
end Go.Proofs.Ytlehddifcjklgaa
