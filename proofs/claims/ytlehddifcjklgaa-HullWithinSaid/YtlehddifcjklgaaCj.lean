import Derived.Test.YtlehddifcjklgaaCh
import Derived.Maps.OwnIn
import Derived.Maps.OwnSet
import Derived.Maps.AppendAt
import Derived.RangeFuncNested
import Derived.RangeFuncBound
import Derived.RangeFuncCalls
import Derived.RangeFuncLeaves
import Derived.Shelf.Abstract
import Derived.Shelf.RegionOpen
import Derived.WalkKit
import Derived.OwnWalkIn
import Derived.TacticsInMore
import Derived.LoopNIn
import Derived.LoopIn
import Derived.WalkMore
import Derived.Sort.QuietThIn
import Derived.Sort.QuietTacIn
import Derived.Sort.BigQuietIn
import Derived.WalkSpells
import Derived.WalkLawsBesides
import Derived.BigQuiet
import Derived.Deep.QuietTactic
import Derived.Lib.Hide
import Derived.Deep.RegionHeld3
import Derived.StillTailTactics
import Derived.Deep.LoopGhost
import Derived.Lib.IndexAny
namespace Go.Proofs.Ytlehddifcjklgaa
open Go.RowKit Go.Shelf
attribute [local go_sem] Oper.semAt_some
theorem pt_cells2 {W : World} {g : Nat} {x y : Int} (h : Row W g 58 [.int .i64 x, .int .i64 y]) : W.cell? ⟨g, 0, none⟩ = some (.int .i64 x) ∧ W.cell? ⟨g, 1, none⟩ = some (.int .i64 y) := ⟨h.cell 0, h.cell 1⟩
/-- a hull turned by a right angle -/
def turnP (p : Pt) : Pt := (-p.2, p.1)
set_option maxRecDepth 100000 in
set_option maxHeartbeats 1000000 in
theorem pairs_any (xs ys : List Pt) (a b : Option Addr) (c d : Nat) (w : World) (hx : PtsA w a xs c) (hy : PtsA w b ys d) (hl : xs.length = ys.length) (h1 : xs.length ≤ 1000) :
    Calls Try.prog 43 #[.slice a xs.length c, .slice b ys.length d] w fun e w' => e = .returned (.bool (decide (xs = ys))) ∧ Below w.heap.size w w' := by
  have d1 : ((xs.length : Int) != (ys.length : Int)) = false := by simp; omega
  have HX := Lib.hid hx
  have HY := Lib.hid hy
  have HL := Lib.hid hl
  obtain ⟨E, hE⟩ : ∃ E, decide (xs = ys) = E := ⟨_, rfl⟩
  rw [hE]
  have HE := Lib.hid hE
  clear hx hy hl hE
  go_enter Try.func43, Try.ntmps43
  go_wp2_with fail
  go_loopw [5] (fun i wr => ∃ k : Nat, k ≤ xs.length ∧ i = .int .i64 (k : Int) ∧ Hid (Below w.heap.size w wr) ∧ Hid (xs.take k = ys.take k)) (fun i _ => xs.length - (intOf i).toNat)
  case atStart => exact ⟨0, by omega, rfl, Lib.hid (Below.refl _ _), Lib.hid rfl⟩
  case round =>
    obtain ⟨k, hk, rfl, HW, HK⟩ := hrel
    by_cases hlt : k < xs.length
    · have hlt2 : k < ys.length := by have := HL.out; omega
      have hd : decide ((k : Int) < (xs.length : Int)) = true := decide_eq_true (by omega)
      obtain ⟨g1, o1, rfl, hp1, _⟩ : ∃ b o, a = some ⟨b, o, none⟩ ∧ PtsAt w b o xs ∧ xs.length ≤ c := by
        rcases HX.out with h | h
        · subst h; simp at hlt
        · exact h
      obtain ⟨g2, o2, rfl, hp2, _⟩ : ∃ b' o, b = some ⟨b', o, none⟩ ∧ PtsAt w b' o ys ∧ ys.length ≤ d := by
        rcases HY.out with h | h
        · subst h; simp at hlt2
        · exact h
      have x1 := below_at HW.out hp1.lt (hp1.x k hlt)
      have y1 := below_at HW.out hp1.lt (hp1.y k hlt)
      have x2 := below_at HW.out hp2.lt (hp2.x k hlt2)
      have y2 := below_at HW.out hp2.lt (hp2.y k hlt2)
      have S1 := Lib.hid (show xs.take (k + 1) = xs.take k ++ [xs[k]] from List.take_succ_eq_append_getElem hlt)
      have S2 := Lib.hid (show ys.take (k + 1) = ys.take k ++ [ys[k]] from List.take_succ_eq_append_getElem hlt2)
      have HNE := Lib.hid (show xs[k] ≠ ys[k] → E = false from fun hne => by
        rw [← HE.out]; refine decide_eq_false fun e => hne ?_
        subst e; rfl)
      clear hp1 hp2
      generalize xs[k] = p at *
      generalize ys[k] = q at *
      obtain ⟨p1, p2⟩ := p
      obtain ⟨q1, q2⟩ := q
      dsimp only at x1 y1 x2 y2
      have E58 := fun W => eq58g p1 p2 q1 q2 W
      have u0 := Kl.cell (cell_lt x1) x1
      have u1 := Kl.cell (cell_lt y1) y1
      have u2 := Kl.cell (cell_lt x2) x2
      have u3 := Kl.cell (cell_lt y2) y2
      clear x1 y1 x2 y2
      by_cases hab : ((p1, p2) : Pt) = (q1, q2)
      · have dd : decide (((p1, p2) : Pt) = (q1, q2)) = true := decide_eq_true hab
        rw [dd] at E58
        have HEQ := Lib.hid hab
        clear dd hab HNE
        go_wp2_with fail
        refine wp_region_below (by kernel_rfl) (by kernel_rfl) ?_
        repeat (go_big_quiet_step (fail))
        refine wpQuiet_nil ?_
        rintro _ ⟨wq, rfl⟩
        have H5 := Lib.hid (Below.andThen HW.out wq.h (Nat.le_refl _))
        generalize wq.W = w5 at *
        clear u0 u1 u2 u3 E58
        go_wp2_with fail
        refine ⟨⟨k + 1, by omega, by simp, H5, Lib.hid (by rw [S1.out, S2.out, HK.out, HEQ.out])⟩, ?_⟩
        simp [intOf]; omega
      · have dd : decide (((p1, p2) : Pt) = (q1, q2)) = false := decide_eq_false hab
        rw [dd] at E58
        have HF := Lib.hid (HNE.out hab)
        clear dd hab HNE
        go_wp2_with fail
        refine wp_region_below (by kernel_rfl) (by kernel_rfl) ?_
        repeat (go_big_quiet_step (fail))
        refine wpQuiet_nil ?_
        rintro _ ⟨wq, rfl⟩
        have H5 := Lib.hid (Below.andThen HW.out wq.h (Nat.le_refl _))
        generalize wq.W = w5 at *
        clear u0 u1 u2 u3 E58
        go_wp2_with fail
        go_ret
        exact ⟨ret_bool HF.out.symm, H5.out⟩
    · have hd : decide ((k : Int) < (xs.length : Int)) = false := decide_eq_false (by omega)
      have hfin : E = true := by
        rw [← HE.out]; refine decide_eq_true ?_
        have := HK.out
        rw [List.take_of_length_le (by omega), List.take_of_length_le (by have := HL.out; omega)] at this
        exact this
      have HF := Lib.hid hfin
      clear hfin
      go_wp2_with fail
      go_ret
      exact ⟨ret_bool HF.out.symm, HW.out⟩
set_option maxRecDepth 100000 in
set_option maxHeartbeats 2000000 in
theorem rTurned_any (ps : List Pt) (b c : Nat) (w : World) (hp : PtsAt w b 0 ps) (ha : areP ps = true) :
    Calls Try.prog 45 #[.slice (some ⟨b, 0, none⟩) ps.length c] w fun e w' => ∃ v, e = .returned v ∧ OwnP w' w.heap.size v (ps.map turnP) ∧ Below w.heap.size w w' := by
  obtain ⟨h3, h12⟩ := areP_len ha
  obtain ⟨i0, hi, hz0, hz1, hz2⟩ := info_parts info58
  have HP := Lib.hid hp
  have HBD := Lib.hid (fun k (hk : k < ps.length) => ptAt_bd ha hk)
  clear hp ha
  go_enter Try.func45, Try.ntmps45
  go_wp2_with fail
  go_loopw [3, 4] (fun v i wr => ∃ k : Nat, k ≤ ps.length ∧ i = .int .i64 (k : Int) ∧ Hid (OwnP wr w.heap.size v ((ps.take k).map turnP)) ∧ Hid (Below w.heap.size w wr)) (fun _ i _ => ps.length - (intOf i).toNat)
  case atStart => exact ⟨0, by omega, rfl, Lib.hid (World.ownsRow_nil _ _ _ _), Lib.hid (Below.refl _ _)⟩
  case round =>
    obtain ⟨k, hk, rfl, HR, HB⟩ := hrel
    by_cases hlt : k < ps.length
    · have hd : decide ((k : Int) < (ps.length : Int)) = true := decide_eq_true (by omega)
      have hx := HP.out.x k hlt
      have hy := HP.out.y k hlt
      rw [Nat.zero_add] at hx hy
      have hbq := HBD.out k hlt
      rw [ptAt_lt hlt] at hbq
      have HS := Lib.hid (show (ps.take (k + 1)).map turnP = (ps.take k).map turnP ++ [turnP ps[k]] by rw [List.take_succ_eq_append_getElem hlt, List.map_append]; rfl)
      generalize ps[k] = q at *
      obtain ⟨q1, q2⟩ := q
      dsimp only at hx hy hbq
      have e1 : IntKind.i64.wrap (-q2) = -q2 := i64_bd hbq.2.neg (by omega)
      have hpl := HP.out.lt
      have SS := Lib.hid (show ∀ W, Below w.heap.size w W → W.cell? ⟨b, k * 2, none⟩ = some (.int .i64 q1) ∧ W.cell? ⟨b, k * 2 + 1, none⟩ = some (.int .i64 q2) from fun W h => ⟨below_at h hpl hx, below_at h hpl hy⟩)
      have BD := Lib.hid (show Below w.heap.size w wr.drew from HB.out.drew)
      have HRD := Lib.hid (own_grow HR.out ((Below.refl wr.heap.size wr).drew))
      clear hx hy hbq
      go_wp2_with fail
      go_region_held3 (fun W => W.cell? ⟨b, k * 2, none⟩ = some (.int .i64 q1) ∧ W.cell? ⟨b, k * 2 + 1, none⟩ = some (.int .i64 q2))
        (first
          | exact SS.out _ BD.out
          | exact SS.out _ (Below.al BD.out (Nat.le_refl _) _)
          | exact SS.out _ B2.out)
        (first
          | (refine step_append_own rfl _ _ 22 rfl w.heap.size 58 i0 (.agg #[.int .i64 0, .int .i64 0]) 2 16 Try.underlying22 hi hz0 hz1 hz2 rfl (by decide) _ _ _ rfl (World.ownsRow.alloc HRD.out _) _ 1 1 [.int .i64 (-q2), .int .i64 q1] rfl rfl (cell_two_at _ _ _ _ _ rfl) (by simp [Value.oneCell']) (by rw [List.length_map, List.length_take]; unfold maxLen; omega) (by rw [List.length_map, List.length_take]; omega) (Nat.le_trans BD.out.size (by simp)) ?_; intro v' w2 hown' hgrow hat; have HR2 := Lib.hid hown'; have B2 := Lib.hid (own_belowP HRD.out rfl BD.out (Below.al BD.out (Nat.le_refl _) _) hgrow); clear hown' hgrow hat))
      clear SS BD HRD
      go_wp2_with fail
      go_roundw
      case rel => exact ⟨k + 1, by omega, rfl, Lib.hid (by rw [HS.out]; have h := HR2.out; unfold OwnP; rw [flat_append, List.length_append]; exact h), B2⟩
      case measure => simp [intOf]; omega
    · have hd : decide ((k : Int) < (ps.length : Int)) = false := decide_eq_false (by omega)
      obtain rfl : k = ps.length := by omega
      have HR2 := HR.out
      rw [List.take_length] at HR2
      have HR3 := Lib.hid HR2
      clear HR2 HR
      go_wp2_with fail
      go_ret
      exact ⟨_, rfl, HR3.out, HB.out⟩
set_option maxRecDepth 100000 in
set_option maxHeartbeats 2000000 in
theorem Clone_any (ps : List Pt) (b c : Nat) (w : World) (hp : PtsAt w b 0 ps) (h12 : ps.length ≤ 1000) (_hc : ps.length ≤ c) :
    Calls Try.prog 76 #[.slice (some ⟨b, 0, none⟩) ps.length c] w fun e w' => ∃ v, e = .returned v ∧ OwnP w' w.heap.size v ps ∧ Below w.heap.size w w' := by
  obtain ⟨i0, hi, hz0, hz1, hz2⟩ := info_parts info58
  have HP := Lib.hid hp
  clear hp
  have s1 : ∀ w, (binOp .eql 22 (.slice (some ⟨b, 0, none⟩) ps.length c) (.slice none 0 0)).run Try.prog w = .ok (.bool false) w := fun w => by
    first
      | kernel_rfl
      | simp [binOp, go_sem]
  have h0 : (w.alloc (.cells #[] 58)).ownsRow w.heap.size 58 2 (.slice (some ⟨w.heap.size, 0, none⟩) 0 0) 0 [] :=
    ⟨rfl, .inr ⟨_, 0, _, rfl, Nat.le_refl _, (Row.new w 58 []), Nat.le_refl _, by unfold maxLen; omega, rfl, rfl⟩⟩
  have H0 := Lib.hid h0
  have BA := Lib.hid ((Below.refl w.heap.size w).alloc (Nat.le_refl _) (.cells #[] 58))
  have HN := Lib.hid (show ∀ W, Below w.heap.size w W → ∀ j u, (flat ps)[j]? = some u → W.cell? ((⟨b, 0, none⟩ : Addr).add j) = some u from fun W hW => by
    have := pts_cells (HP.out.grow hW) ps.length
    rwa [List.take_length] at this)
  clear h0
  go_enter Try.func76, Try.ntmps76
  go_wp2_with (at_builtin; refine wpList_append_own_at _ rfl _ _ 22 rfl w.heap.size 58 i0 (.agg #[.int .i64 0, .int .i64 0]) 2 16 Try.underlying22 hi hz0 hz1 hz2 rfl (by decide) _ _ _ rfl H0.out ⟨b, 0, none⟩ ps.length c (flat ps) rfl (by rw [flat_length]) (HN.out _ BA.out) (flat_one _) (by unfold maxLen; omega) (by omega) BA.out.size ?_; intro v' w2 hown' hgrow hnil hat; have HR := Lib.hid hown'; have B4 := Lib.hid (own_belowP H0.out rfl BA.out BA.out hgrow); clear hown' hgrow hnil hat)
  go_ret
  refine ⟨_, rfl, ?_, B4.out⟩
  have h1 := HR.out
  rw [List.nil_append, Nat.zero_add] at h1
  exact h1
end Go.Proofs.Ytlehddifcjklgaa
