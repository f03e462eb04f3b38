import Derived.Test.YtlehddifcjklgaaEc
import Derived.Maps.OwnIn
import Derived.Maps.OwnSet
import Derived.Maps.AppendAt
import Derived.RangeFuncNested
import Derived.RangeFuncBound
import Derived.RangeFuncCalls
import Derived.RangeFuncLeaves
import Derived.Shelf.Abstract
import Derived.Shelf.RegionOpen
import Derived.WalkKit
import Derived.OwnWalkIn
import Derived.TacticsInMore
import Derived.LoopNIn
import Derived.LoopIn
import Derived.WalkMore
import Derived.Sort.QuietThIn
import Derived.Sort.QuietTacIn
import Derived.Sort.BigQuietIn
import Derived.WalkSpells
import Derived.WalkLawsBesides
import Derived.BigQuiet
import Derived.Deep.QuietTactic
import Derived.Lib.Hide
import Derived.Deep.RegionHeld3
import Derived.StillTailTactics
import Derived.Deep.LoopGhost
import Derived.Lib.IndexAny
namespace Go.Proofs.Ytlehddifcjklgaa
open Go.RowKit Go.Shelf
attribute [local go_sem] Oper.semAt_some
/-- what is left of a way (its last point first) when the next point comes -/
def popR : List Pt → Pt → List Pt
  | b :: a :: r, p => if lft a b p then b :: a :: r else popR (a :: r) p
  | l, _ => l
def leftR (st : List Pt) (p : Pt) : List Pt := p :: popR st p
theorem popR_len : ∀ (st : List Pt) (p : Pt), (popR st p).length ≤ st.length
  | [], _ => by simp [popR]
  | [_], _ => by simp [popR]
  | b :: a :: r, p => by
    unfold popR
    split
    · omega
    · have := popR_len (a :: r) p
      simp only [List.length_cons] at this ⊢; omega
theorem popR_sub : ∀ (st : List Pt) (p q : Pt), q ∈ popR st p → q ∈ st
  | [], _, _, h => by simp [popR] at h
  | [_], _, _, h => by simpa [popR] using h
  | b :: a :: r, p, q, h => by
    unfold popR at h
    split at h
    · exact h
    · exact List.mem_cons_of_mem _ (popR_sub (a :: r) p q h)
theorem foldl_left_len : ∀ (ps st : List Pt), (ps.foldl leftR st).length ≤ st.length + ps.length
  | [], st => by simp
  | p :: ps, st => by
    have h1 := foldl_left_len ps (leftR st p)
    have h2 := popR_len st p
    simp only [List.foldl_cons, List.length_cons] at h1 ⊢
    unfold leftR at h1
    simp only [List.length_cons] at h1
    unfold leftR; omega
theorem foldl_left_sub : ∀ (ps st : List Pt) (q : Pt), q ∈ ps.foldl leftR st → q ∈ st ∨ q ∈ ps
  | [], st, q, h => .inl h
  | p :: ps, st, q, h => by
    rcases foldl_left_sub ps (leftR st p) q h with h | h
    · rcases List.mem_cons.1 h with h | h
      · exact .inr (by rw [h]; exact List.mem_cons_self)
      · exact .inl (popR_sub st p q h)
    · exact .inr (List.mem_cons_of_mem _ h)
theorem ownP_pop {W : World} {n₀ : Nat} {a : Option Addr} {c : Nat} {st : List Pt} {p : Pt} (h : OwnP W n₀ (.slice a (p :: st).length c) (p :: st).reverse) : OwnP W n₀ (.slice a st.length c) st.reverse := by
  unfold OwnP at *
  rw [List.length_reverse] at *
  have hl : (flat st.reverse).length = st.length * 2 := by rw [flat_length, List.length_reverse]
  refine ⟨hl, ?_⟩
  rcases h.2 with ⟨h1, h2⟩ | ⟨g, cap, cur, he, h1, h2, h3, h4, h5, h6⟩
  · simp at h2
  · cases he
    refine .inr ⟨g, c, cur, rfl, h1, h2, by simp at h3; omega, h4, h5, ?_⟩
    have e : flat (p :: st).reverse = flat st.reverse ++ flat [p] := by rw [List.reverse_cons, flat_append]
    have h7 := congrArg (List.take (st.length * 2)) h6
    rw [List.take_take, e, List.take_append_of_le_length (by omega), List.take_of_length_le (l := flat st.reverse) (by omega)] at h7
    rw [← h7]
    congr 1
    simp
theorem OwnP.ptsR {W : World} {n₀ : Nat} {a : Option Addr} {c : Nat} {st : List Pt} (h : OwnP W n₀ (.slice a st.length c) st.reverse) (h1 : 1 ≤ st.length) : ∃ g, a = some ⟨g, 0, none⟩ ∧ PtsAt W g 0 st.reverse ∧ st.length ≤ c := by
  obtain ⟨a2, c2, he, h2⟩ := h.open
  obtain ⟨e1, _, e3⟩ := Value.slice.inj he
  subst e1; subst e3
  rcases h2 with ⟨_, _, h3⟩ | ⟨g, _, h4, h5, h6⟩
  · have := congrArg List.length h3; rw [List.length_reverse, List.length_nil] at this; omega
  · exact ⟨g, h4, h5, by rw [List.length_reverse] at h6; exact h6⟩
theorem rowOf {W : World} {n₀ : Nat} {a : Option Addr} {c : Nat} {st : List Pt} (h : OwnP W n₀ (.slice a st.length c) st.reverse) : W.ownsRow n₀ 58 2 (.slice a st.length c) st.length (flat st.reverse) := by
  unfold OwnP at h; rw [List.length_reverse] at h; exact h
set_option maxRecDepth 100000 in
set_option maxHeartbeats 2000000 in
theorem leftwards_any (ps : List Pt) (b c : Nat) (w : World) (hp : PtsAt w b 0 ps) (h12 : ps.length ≤ 12) (hin : ∀ q ∈ ps, inR q = true) :
    Calls Try.prog 88 #[.slice (some ⟨b, 0, none⟩) ps.length c] w fun e w' => ∃ v, e = .returned v ∧ OwnP w' w.heap.size v (ps.foldl leftR []).reverse ∧ Below w.heap.size w w' := by
  obtain ⟨i0, hi, hz0, hz1, hz2⟩ := info_parts info58
  have HP := Lib.hid hp
  have HIN := Lib.hid hin
  clear hp hin
  go_enter Try.func88, Try.ntmps88
  go_wp2_with fail
  go_loopw [3, 8] (fun v i wr => ∃ (k : Nat) (st : List Pt) (a : Option Addr) (c' : Nat), k ≤ ps.length ∧ i = .int .i64 (k : Int) ∧ v = .slice a st.length c' ∧ st.length ≤ k ∧ Hid (st = (ps.take k).foldl leftR []) ∧ Hid (OwnP wr w.heap.size (.slice a st.length c') st.reverse) ∧ Hid (Below w.heap.size w wr)) (fun _ i _ => ps.length - (intOf i).toNat)
  case atStart => exact ⟨0, [], none, 0, by omega, rfl, rfl, by simp, Lib.hid rfl, Lib.hid (World.ownsRow_nil _ _ _ _), Lib.hid (Below.refl _ _)⟩
  case round =>
    obtain ⟨k, st, a, c', hk, rfl, rfl, hsk, HS, HO, HB⟩ := hrel
    by_cases hlt : k < ps.length
    · have hd : decide ((k : Int) < (ps.length : Int)) = true := by simp; omega
      have hx := below_at HB.out HP.out.lt (HP.out.x k hlt)
      have hy := below_at HB.out HP.out.lt (HP.out.y k hlt)
      rw [Nat.zero_add] at hx hy
      have HNX := Lib.hid (show (ps.take (k + 1)).foldl leftR [] = leftR st ps[k] by rw [List.take_succ_eq_append_getElem hlt, List.foldl_append, ← HS.out]; rfl)
      have HST := Lib.hid (show ∀ q ∈ st, inR q = true from fun q hq => by
        rw [HS.out] at hq
        rcases foldl_left_sub _ _ q hq with h | h
        · simp at h
        · exact HIN.out q (List.mem_of_mem_take h))
      have hpb := HIN.out _ (List.getElem_mem hlt)
      generalize ps[k] = p at *
      obtain ⟨p1, p2⟩ := p
      dsimp only at hx hy
      have HPB := Lib.hid hpb
      clear HS hpb
      go_wp2_with fail
      obtain ⟨W0, hW0⟩ : ∃ W0, W0 = wr.alloc (.cells #[.int .i64 p1, .int .i64 p2] 58) := ⟨_, rfl⟩
      have hb0 : Below wr.heap.size wr W0 := by rw [hW0]; exact (Below.refl _ _).alloc (Nat.le_refl _) _
      have HB0 := Lib.hid (Below.andThen HB.out hb0 (Nat.le_refl _))
      have HO0 := Lib.hid (show OwnP W0 w.heap.size (.slice a st.length c') st.reverse from own_grow HO.out hb0)
      have r0 := Lib.hid (show Row W0 wr.heap.size 58 [.int .i64 p1, .int .i64 p2] by rw [hW0]; exact Row.new _ _ _)
      rw [← hW0]
      clear hW0 hb0 HB HO hx hy
      obtain ⟨st0, hst0⟩ : ∃ st0, popR st (p1, p2) = st0 := ⟨_, rfl⟩
      have HPOP := Lib.hid hst0
      rw [show leftR st (p1, p2) = (p1, p2) :: popR st (p1, p2) from rfl, hst0] at HNX
      clear hst0
      go_loopw [3] (fun v wx => ∃ (st : List Pt) (a : Option Addr) (c' : Nat), v = .slice a st.length c' ∧ st.length ≤ k ∧ Hid (popR st (p1, p2) = st0) ∧ Hid (∀ q ∈ st, inR q = true) ∧ Hid (OwnP wx w.heap.size (.slice a st.length c') st.reverse) ∧ Hid (Row wx wr.heap.size 58 [.int .i64 p1, .int .i64 p2]) ∧ Hid (Below W0.heap.size W0 wx)) (fun v _ => lenOfV v)
      case atStart => exact ⟨st, a, c', rfl, hsk, HPOP, HST, HO0, r0, Lib.hid (Below.refl _ _)⟩
      case round =>
        clear HPOP HST HO0
        obtain ⟨st', a', c'', rfl, hsk', HPOP, HST, HO, HR, HBX⟩ := hrel
        obtain ⟨y0, y1, _, _⟩ := two_cells HR.out
        have x0 := Kl.cell HR.out.lt y0
        have x1 := Kl.cell HR.out.lt y1
        clear y0 y1
        by_cases hshort : st'.length ≤ 1
        · have d1 : decide (1 < (st'.length : Int)) = false := decide_eq_false (by omega)
          have d2 : decide (1 < st'.length) = false := decide_eq_false (by omega)
          have HEQ := Lib.hid (show st0 = st' by
            rw [← HPOP.out]
            match st', hshort with
            | [], _ => rfl
            | [q], _ => rfl
            | _ :: _ :: _, h => simp at h)
          go_wp2_with fail
          refine wp_region_below (by kernel_rfl) (by kernel_rfl) ?_
          repeat (go_big_quiet_step (fail))
          refine wpQuiet_nil ?_
          rintro _ ⟨wq, rfl⟩
          have HO1 := Lib.hid (show OwnP wq.W w.heap.size (.slice a' st'.length c'') st'.reverse from own_grow HO.out wq.h)
          have HB1 := Lib.hid (Below.andThen HB0.out (Below.andThen HBX.out wq.h (Nat.le_refl _)) (Nat.le_refl _))
          have HR1 := HR.out.below wq.h HR.out.lt
          obtain ⟨v0, v1, _, _⟩ := two_cells HR1
          generalize wq.W = w5 at *
          clear HR1
          go_wp2_with (at_builtin; refine wpList_append_own_at _ rfl _ _ 22 rfl w.heap.size 58 i0 (.agg #[.int .i64 0, .int .i64 0]) 2 16 Try.underlying22 hi hz0 hz1 hz2 rfl (by decide) _ _ _ rfl (World.ownsRow.alloc (rowOf HO1.out) _) _ 1 1 [.int .i64 p1, .int .i64 p2] rfl rfl (cell_two_at _ _ _ _ _ rfl) (by simp [Value.oneCell']) (by unfold maxLen; omega) (by omega) (Nat.le_trans HB1.out.size (by simp)) ?_; intro v' w2 hown' hgrow hnil hat; have HR2 := Lib.hid hown'; have B2 := Lib.hid (own_belowP (rowOf HO1.out) rfl HB1.out (Below.al HB1.out (Nat.le_refl _) _) hgrow); clear hown' hgrow hnil hat)
          have HF : OwnP w2 w.heap.size v' ((p1, p2) :: st').reverse := by
            unfold OwnP; rw [List.length_reverse, List.length_cons, List.reverse_cons, flat_append]; exact HR2.out
          obtain ⟨a3, c3, rfl⟩ : ∃ a3 c3, v' = .slice a3 ((p1, p2) :: st').length c3 := by
            obtain ⟨a3, c3, h, _⟩ := HF.open
            exact ⟨a3, c3, by rw [h, List.length_reverse]⟩
          refine ⟨⟨k + 1, (p1, p2) :: st', a3, c3, by omega, by simp, rfl, by simp; omega, Lib.hid (by rw [HNX.out, HEQ.out]), Lib.hid HF, B2⟩, ?_⟩
          simp [intOf]; omega
        · obtain ⟨q2, q1, r, hst⟩ : ∃ q2 q1 r, st' = q2 :: q1 :: r := by
            match st', hshort with
            | [], h => simp at h
            | [q], h => simp at h
            | q2 :: q1 :: r, _ => exact ⟨q2, q1, r, rfl⟩
          have hl2 : 2 ≤ st'.length := by omega
          have d1 : decide (1 < (st'.length : Int)) = true := decide_eq_true (by omega)
          have d2 : decide (1 < st'.length) = true := decide_eq_true (by omega)
          obtain ⟨gw, rfl, hpt, hcc⟩ := OwnP.ptsR HO.out (by omega)
          have ha1 : st'.length - 2 < st'.reverse.length := by rw [List.length_reverse]; omega
          have ha2 : st'.length - 1 < st'.reverse.length := by rw [List.length_reverse]; omega
          have g1 : st'.reverse[st'.length - 2] = q1 := by rw [List.getElem_reverse]; simp [hst]
          have g2 : st'.reverse[st'.length - 1] = q2 := by rw [List.getElem_reverse]; simp [hst]
          have xa := hpt.x _ ha1
          have ya := hpt.y _ ha1
          have xb := hpt.x _ ha2
          have yb := hpt.y _ ha2
          rw [Nat.zero_add, g1] at xa ya
          rw [Nat.zero_add, g2] at xb yb
          have bq1 := HST.out q1 (by rw [hst]; simp)
          have bq2 := HST.out q2 (by rw [hst]; simp)
          have e1 : (st'.length : Int) - 2 = ((st'.length - 2 : Nat) : Int) := by omega
          have e2 : (st'.length : Int) - 1 = ((st'.length - 1 : Nat) : Int) := by omega
          have e3 : IntKind.i64.wrap ((st'.length : Int) - 2) = ((st'.length - 2 : Nat) : Int) := by rw [i64_of _ (by omega) (by omega)]; omega
          have e4 : IntKind.i64.wrap ((st'.length : Int) - 1) = ((st'.length - 1 : Nat) : Int) := by rw [i64_of _ (by omega) (by omega)]; omega
          have HPQ := Lib.hid (show popR st' (p1, p2) = if lft q1 q2 (p1, p2) then st' else popR (q1 :: r) (p1, p2) by rw [hst]; rfl)
          have HQ := Lib.hid hst
          obtain ⟨q11, q12⟩ := q1
          obtain ⟨q21, q22⟩ := q2
          dsimp only at xa ya xb yb
          have bp := HPB.out
          unfold inR at bq1 bq2 bp
          simp only [Bool.and_eq_true, decide_eq_true_eq] at bq1 bq2 bp
          have HTL := Lib.hid (fun W => turnsLeft_any q11 q12 q21 q22 p1 p2 W ⟨by omega, by omega⟩ ⟨by omega, by omega⟩ ⟨by omega, by omega⟩ ⟨by omega, by omega⟩ ⟨by omega, by omega⟩ ⟨by omega, by omega⟩)
          have hgl := hpt.lt
          have z0 := Kl.cell hgl xa
          have z1 := Kl.cell hgl ya
          have z2 := Kl.cell hgl xb
          have z3 := Kl.cell hgl yb
          have s1 : ∀ w, (Instr.slice 22 (.slice (some ⟨gw, 0, none⟩) st'.length c'') none (some (.int .i64 ((st'.length - 1 : Nat) : Int))) none).run Try.prog w = .ok (.slice (some ⟨gw, 0, none⟩) (st'.length - 1) c'') w := fun w => slice_upto _ _ c'' (st'.length - 1) (by omega) w
          generalize hm1 : st'.length - 1 = m1 at *
          generalize hm2 : st'.length - 2 = m2 at *
          have HM1 := Lib.hid hm1
          have HM2 := Lib.hid hm2
          clear hst hshort hpt ha1 ha2 g1 g2 xa ya xb yb bq1 bq2 bp hm1 hm2
          obtain ⟨t, ht⟩ : ∃ t, lft (q11, q12) (q21, q22) (p1, p2) = t := ⟨_, rfl⟩
          rw [ht] at HTL HPQ
          clear ht
          cases t
          · go_wp2_with fail
            refine wp_region_below (by kernel_rfl) (by kernel_rfl) ?_
            iterate 17 (go_big_quiet_step (fail))
            go_big_quiet_step (first | (go_at_call 98; exact Kl.call (HTL.out _)))
            repeat (go_big_quiet_step (fail))
            refine wpQuiet_nil ?_
            rintro _ ⟨wq, rfl⟩
            have HO1 := Lib.hid (show OwnP wq.W w.heap.size (.slice (some ⟨gw, 0, none⟩) st'.length c'') st'.reverse from own_grow HO.out wq.h)
            have HB1 := Lib.hid (Below.andThen HBX.out wq.h (Nat.le_refl _))
            have HR1 := Lib.hid (HR.out.below wq.h HR.out.lt)
            generalize wq.W = w5 at *
            clear z0 z1 z2 z3 x0 x1
            have hl' : ((q11, q12) :: r).length = m1 := by have := HQ.out; have := HM1.out; rw [← this, HQ.out]; simp
            have HOP := Lib.hid (show OwnP w5 w.heap.size (.slice (some ⟨gw, 0, none⟩) ((q11, q12) :: r).length c'') ((q11, q12) :: r).reverse by
              have h := HO1.out
              rw [HQ.out] at h
              exact ownP_pop h)
            have HL' := Lib.hid hl'
            have HSUB := Lib.hid (show ∀ q ∈ ((q11, q12) :: r), inR q = true from fun q hq => HST.out q (by rw [HQ.out]; exact List.mem_cons_of_mem _ hq))
            clear hl'
            go_wp2_with fail
            refine ⟨⟨(q11, q12) :: r, some ⟨gw, 0, none⟩, c'', by rw [HL'.out], by rw [HL'.out]; omega, Lib.hid (by rw [← HPOP.out, HPQ.out]; rfl), HSUB, HOP, HR1, HB1⟩, ?_⟩
            have := HM1.out
            simp [lenOfV]; omega
          · have HEQ := Lib.hid (show st0 = st' by rw [← HPOP.out, HPQ.out]; rfl)
            go_wp2_with fail
            refine wp_region_below (by kernel_rfl) (by kernel_rfl) ?_
            iterate 17 (go_big_quiet_step (fail))
            go_big_quiet_step (first | (go_at_call 98; exact Kl.call (HTL.out _)))
            repeat (go_big_quiet_step (fail))
            refine wpQuiet_nil ?_
            rintro _ ⟨wq, rfl⟩
            have HO1 := Lib.hid (show OwnP wq.W w.heap.size (.slice (some ⟨gw, 0, none⟩) st'.length c'') st'.reverse from own_grow HO.out wq.h)
            have HB1 := Lib.hid (Below.andThen HB0.out (Below.andThen HBX.out wq.h (Nat.le_refl _)) (Nat.le_refl _))
            have HR1 := HR.out.below wq.h HR.out.lt
            obtain ⟨v0, v1, _, _⟩ := two_cells HR1
            generalize wq.W = w5 at *
            clear HR1
            go_wp2_with (at_builtin; refine wpList_append_own_at _ rfl _ _ 22 rfl w.heap.size 58 i0 (.agg #[.int .i64 0, .int .i64 0]) 2 16 Try.underlying22 hi hz0 hz1 hz2 rfl (by decide) _ _ _ rfl (World.ownsRow.alloc (rowOf HO1.out) _) _ 1 1 [.int .i64 p1, .int .i64 p2] rfl rfl (cell_two_at _ _ _ _ _ rfl) (by simp [Value.oneCell']) (by unfold maxLen; omega) (by omega) (Nat.le_trans HB1.out.size (by simp)) ?_; intro v' w2 hown' hgrow hnil hat; have HR2 := Lib.hid hown'; have B2 := Lib.hid (own_belowP (rowOf HO1.out) rfl HB1.out (Below.al HB1.out (Nat.le_refl _) _) hgrow); clear hown' hgrow hnil hat)
            have HF : OwnP w2 w.heap.size v' ((p1, p2) :: st').reverse := by
              unfold OwnP; rw [List.length_reverse, List.length_cons, List.reverse_cons, flat_append]; exact HR2.out
            obtain ⟨a3, c3, rfl⟩ : ∃ a3 c3, v' = .slice a3 ((p1, p2) :: st').length c3 := by
              obtain ⟨a3, c3, h, _⟩ := HF.open
              exact ⟨a3, c3, by rw [h, List.length_reverse]⟩
            refine ⟨⟨k + 1, (p1, p2) :: st', a3, c3, by omega, by simp, rfl, by simp; omega, Lib.hid (by rw [HNX.out, HEQ.out]), Lib.hid HF, B2⟩, ?_⟩
            simp [intOf]; omega
    · have hd : decide ((k : Int) < (ps.length : Int)) = false := by simp; omega
      obtain rfl : k = ps.length := by omega
      have HF := Lib.hid (show OwnP wr w.heap.size (.slice a st.length c') (ps.foldl leftR []).reverse by
        have h := HS.out; rw [List.take_length] at h; rw [← h]; exact HO.out)
      clear HO HS
      go_wp2_with fail
      go_ret
      exact ⟨_, rfl, HF.out, HB.out⟩
end Go.Proofs.Ytlehddifcjklgaa
