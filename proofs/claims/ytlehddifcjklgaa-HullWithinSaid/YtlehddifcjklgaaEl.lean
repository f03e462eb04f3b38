import Derived.Test.YtlehddifcjklgaaEk
import Derived.Test.YtlehddifcjklgaaEm
import Derived.Maps.OwnIn
import Derived.Maps.OwnSet
import Derived.Maps.AppendAt
import Derived.RangeFuncNested
import Derived.RangeFuncBound
import Derived.RangeFuncCalls
import Derived.RangeFuncLeaves
import Derived.Shelf.Abstract
import Derived.Shelf.RegionOpen
import Derived.WalkKit
import Derived.OwnWalkIn
import Derived.TacticsInMore
import Derived.LoopNIn
import Derived.LoopIn
import Derived.WalkMore
import Derived.Sort.QuietThIn
import Derived.Sort.QuietTacIn
import Derived.Sort.BigQuietIn
import Derived.WalkSpells
import Derived.WalkLawsBesides
import Derived.BigQuiet
import Derived.Deep.QuietTactic
import Derived.Lib.Hide
import Derived.Deep.RegionHeld3
import Derived.StillTailTactics
import Derived.Deep.LoopGhost
import Derived.Lib.IndexAny
namespace Go.Proofs.Ytlehddifcjklgaa
open Go.RowKit Go.Shelf
attribute [local go_sem] Oper.semAt_some
theorem addR_head (st : List Pt) (x : Pt) : (addR st x).head? = some x := by unfold addR; split <;> simp_all
theorem fold_head : ∀ (T st : List Pt), T ≠ [] → (T.foldl addR st).head? = T.getLast?
  | [], _, h => absurd rfl h
  | [x], st, _ => by simp [addR_head]
  | x :: y :: T, st, _ => by
    rw [List.getLast?_cons_cons]
    exact fold_head (y :: T) (addR st x) (by simp)
theorem dd_take_succ {ps : List Pt} {i : Nat} (hi : i < ps.length) (h0 : 0 < i) : dd (ps.take (i + 1)) = if ptAt ps i = ptAt ps (i - 1) then dd (ps.take i) else dd (ps.take i) ++ [ptAt ps i] := by
  have e : ps.take (i + 1) = ps.take i ++ [ps[i]] := (List.take_append_getElem hi).symm
  have hh := fold_head (ps.take i) [] (by
    intro h
    have := congrArg List.length h
    rw [List.length_take, List.length_nil] at this
    omega)
  rw [List.getLast?_eq_getElem?, List.length_take, Nat.min_eq_left (by omega), List.getElem?_take, if_pos (by omega), List.getElem?_eq_getElem (by omega)] at hh
  rw [e]
  unfold dd
  rw [List.foldl_append]
  simp only [List.foldl_cons, List.foldl_nil]
  rw [ptAt_lt hi, ptAt_lt (show i - 1 < ps.length by omega)]
  unfold addR at hh ⊢
  by_cases hq : ps[i] = ps[i - 1]
  · rw [if_pos hq, if_pos (by rw [hh, hq])]
  · rw [if_neg hq, if_neg (by rw [hh]; intro h; exact hq (Option.some.inj h).symm), List.reverse_cons]
structure Cmp (ps L : List Pt) (i m : Nat) : Prop where
  len : L.length = ps.length
  cnt : m = (dd (ps.take i)).length
  tk : L.take m = dd (ps.take i)
  lt : m < i
  un : ∀ t, i - 1 ≤ t → t < ps.length → ptAt L t = ptAt ps t
theorem Cmp.start {ps : List Pt} {k : Nat} (hk : k < ps.length) (h0 : 0 < k) (h : ∀ j, 0 < j → j < k → ptAt ps j ≠ ptAt ps (j - 1)) (he : ptAt ps k = ptAt ps (k - 1)) : Cmp ps ps (k + 1) k := by
  have e := dd_take_ne ps k (by omega) h
  have e2 : dd (ps.take (k + 1)) = ps.take k := by rw [dd_take_succ hk h0, if_pos he, e]
  exact ⟨rfl, by rw [e2, List.length_take]; omega, e2.symm, by omega, fun t _ _ => rfl⟩
theorem Cmp.same {ps L : List Pt} {i m : Nat} (h : Cmp ps L i m) (hi : i < ps.length) (he : ptAt ps i = ptAt ps (i - 1)) : Cmp ps L (i + 1) m := by
  have h0 := h.lt
  have e2 : dd (ps.take (i + 1)) = dd (ps.take i) := by rw [dd_take_succ hi (by omega), if_pos he]
  exact ⟨h.len, by rw [e2]; exact h.cnt, by rw [e2]; exact h.tk, by omega, fun t h1 h2 => h.un t (by omega) h2⟩
theorem Cmp.new {ps L : List Pt} {i m : Nat} (h : Cmp ps L i m) (hi : i < ps.length) (he : ptAt ps i ≠ ptAt ps (i - 1)) : Cmp ps (L.set m (ptAt ps i)) (i + 1) (m + 1) := by
  have h0 := h.lt
  have hl := h.len
  have e2 : dd (ps.take (i + 1)) = dd (ps.take i) ++ [ptAt ps i] := by rw [dd_take_succ hi (by omega), if_neg he]
  refine ⟨by rw [List.length_set]; exact hl, by rw [e2, List.length_append, ← h.cnt]; rfl, ?_, by omega, fun t h1 h2 => ?_⟩
  · rw [e2, ← h.tk, List.take_set, ← List.take_append_getElem (show m < L.length by omega), List.set_append_right _ _ (by rw [List.length_take]; omega), List.length_take, Nat.min_eq_left (by omega), Nat.sub_self]; rfl
  · have := h.un t (by omega) h2
    unfold ptAt at *
    rw [List.getD_eq_getElem?_getD, List.getElem?_set_ne (by omega), ← List.getD_eq_getElem?_getD]
    exact this
set_option maxRecDepth 100000 in
set_option maxHeartbeats 400000 in
theorem compact_any (ps : List Pt) (g c n₀ : Nat) (w : World) (ho : OwnG w n₀ g c ps) (hn0 : n₀ ≤ w.heap.size) (h1 : 2 ≤ ps.length) (h12 : ps.length ≤ 12) :
    Calls Try.prog 87 #[.slice (some ⟨g, 0, none⟩) ps.length c] w fun e w' => ∃ k, k = (dd ps).length ∧ e = .returned (.slice (some ⟨g, 0, none⟩) k c) ∧ (∃ L, OwnG w' n₀ g c L ∧ L.take k = dd ps) ∧ Below n₀ w w' := by
  obtain ⟨N, hN⟩ : ∃ N, ps.length = N := ⟨_, rfl⟩
  have HN := Lib.hid hN
  have HO := Lib.hid ho
  rw [hN] at h1 h12 ⊢
  have d2 : decide ((N : Int) < 2) = false := decide_eq_false (by omega)
  clear hN ho
  go_enter Try.func87, Try.ntmps87
  go_wp2_with fail
  go_loopw [3] (fun i wr => ∃ k : Nat, 1 ≤ k ∧ k ≤ N ∧ i = .int .i64 (k : Int) ∧ Hid (∀ j, 0 < j → j < k → ptAt ps j ≠ ptAt ps (j - 1)) ∧ Hid (OwnG wr n₀ g c ps) ∧ Hid (Below n₀ w wr)) (fun i _ => N - (intOf i).toNat)
  case atStart => exact ⟨1, by omega, by omega, rfl, Lib.hid (fun j _ _ => by omega), HO, Lib.hid (Below.refl _ _)⟩
  case round =>
    clear HO
    obtain ⟨k, hk1, hkN, rfl, HD, HO, HB⟩ := hrel
    by_cases hlt : k < N
    · have hd : decide ((k : Int) < (N : Int)) = true := decide_eq_true (by omega)
      obtain ⟨j, hj⟩ : ∃ j, k - 1 = j := ⟨_, rfl⟩
      have ej : (k : Int) - 1 = (j : Int) := by omega
      have hne : ps ≠ [] := fun h => by have := HN.out; rw [h] at this; simp at this; omega
      obtain ⟨hpt, hcc, hg0⟩ := HO.out.pts hne
      have hkn : k < ps.length := by rw [HN.out]; exact hlt
      have hjn : j < ps.length := by omega
      have xj := hpt.x j hjn
      have yj := hpt.y j hjn
      have xk := hpt.x k hkn
      have yk := hpt.y k hkn
      rw [Nat.zero_add] at xj yj xk yk
      rw [← ptAt_lt hjn] at xj yj
      rw [← ptAt_lt hkn] at xk yk
      have HK := Lib.hid (show ptAt ps (k - 1) = ptAt ps j by rw [hj])
      have HKK := Lib.hid (And.intro hkn hjn)
      have PK := Lib.hid (show ptAt ps k = ptAt ps k from rfl)
      generalize hpa : ptAt ps k = pa at *
      generalize hpb : ptAt ps j = pb at *
      obtain ⟨a1, a2⟩ := pa
      obtain ⟨b1, b2⟩ := pb
      dsimp only at xj yj xk yk
      have PA := Lib.hid hpa
      have PB := Lib.hid hpb
      have e0 : IntKind.i64.wrap ((k : Int) - 1) = (k : Int) - 1 := i64_of _ (by omega) (by omega)
      have E1 := fun W => eq58g a1 a2 b1 b2 W
      have hjk : j < N := by omega
      clear hpt hne hkn hjn hpa hpb hj
      by_cases heq : (a1, a2) = (b1, b2)
      · have dq : decide (((a1, a2) : Pt) = (b1, b2)) = true := decide_eq_true heq
        rw [dq] at E1
        clear dq
        have HEQ := Lib.hid heq
        clear heq
        go_wp2_with fail
        have lg : g < wr.heap.size := by
          obtain ⟨cur, hh, _⟩ := HO.out.heap
          exact (Array.getElem?_eq_some_iff.1 hh).1
        have u0 := Kl.cell lg xj
        have u1 := Kl.cell lg yj
        have u2 := Kl.cell lg xk
        have u3 := Kl.cell lg yk
        refine wp_region_below (by kernel_rfl) (by kernel_rfl) ?_
        repeat (go_big_quiet_step (fail))
        refine wpQuiet_nil ?_
        rintro _ ⟨wq, rfl⟩
        have HO2 := Lib.hid (show OwnG wq.W n₀ g c ps from own_grow HO.out wq.h)
        have HB2 := Lib.hid (Below.andThen HB.out wq.h (by omega))
        have x1 := below_at wq.h lg xk
        have x2 := below_at wq.h lg yk
        clear u0 u1 u2 u3 xj yj xk yk HO HB lg
        generalize wq.W = w2 at *
        go_wp2_with fail
        · exfalso
          have := HN.out
          omega
        · rename_i hck
          have HST := Lib.hid (Cmp.start HKK.out.1 (by omega) HD.out (by rw [PA.out, HK.out]; exact HEQ.out))
          clear PA PB HK HD HEQ E1 ej e0 x1 x2
          go_loopw [3, 5] (fun mv qv wr => ∃ (m q i : Nat) (L : List Pt), k + q = i ∧ mv = .int .i64 (m : Int) ∧ qv = .int .i64 (q : Int) ∧ 1 ≤ q ∧ i ≤ N ∧ m < i ∧ Hid (Cmp ps L i m) ∧ Hid (OwnG wr n₀ g c L) ∧ Hid (Below n₀ w wr)) (fun _ qv _ => N - (intOf qv).toNat)
          case atStart => exact ⟨k, 1, k + 1, ps, rfl, rfl, rfl, by omega, by omega, by omega, HST, HO2, HB2⟩
          case round =>
            clear HO2 HB2 HST
            obtain ⟨m, q, i, L, hkq, rfl, rfl, hq1, hiN, hmi, HC, HO, HB⟩ := hrel
            have lg : g < wr.heap.size := by
              obtain ⟨cur, hh, _⟩ := HO.out.heap
              exact (Array.getElem?_eq_some_iff.1 hh).1
            by_cases hlt2 : i < N
            · have hd2 : decide (q < N - k) = true := decide_eq_true (by omega)
              obtain ⟨r, hr⟩ : ∃ r, q - 1 = r := ⟨_, rfl⟩
              have er : (q : Int) - 1 = (r : Int) := by omega
              have e0 : IntKind.i64.wrap ((q : Int) - 1) = (q : Int) - 1 := i64_of _ (by omega) (by omega)
              have hLN : L.length = N := by rw [HC.out.len, HN.out]
              have hne : L ≠ [] := fun h => by rw [h] at hLN; simp at hLN; omega
              obtain ⟨hpt, hcc2, _⟩ := HO.out.pts hne
              have xi := hpt.x i (by omega)
              have yi := hpt.y i (by omega)
              have xr := hpt.x (i - 1) (by omega)
              have yr := hpt.y (i - 1) (by omega)
              rw [Nat.zero_add] at xi yi xr yr
              rw [← ptAt_lt (show i < L.length by omega), HC.out.un i (by omega) (by rw [HN.out]; omega)] at xi yi
              rw [← ptAt_lt (show i - 1 < L.length by omega), HC.out.un (i - 1) (by omega) (by rw [HN.out]; omega)] at xr yr
              rw [show i - 1 = k + r by omega] at xr yr
              have PR := Lib.hid (show ptAt ps (i - 1) = ptAt ps (k + r) by rw [show i - 1 = k + r by omega])
              have PI := Lib.hid (show ptAt ps i = ptAt ps i from rfl)
              generalize hpa : ptAt ps i = pa at *
              generalize hpb : ptAt ps (k + r) = pb at *
              obtain ⟨a3, a4⟩ := pa
              obtain ⟨b3, b4⟩ := pb
              have PA := Lib.hid hpa
              have PB := Lib.hid hpb
              dsimp only at xi yi xr yr
              rw [← hkq, Nat.add_mul] at xi yi
              rw [Nat.add_mul] at xr yr
              have HKQ := Lib.hid hkq
              have HRQ := Lib.hid hr
              have E1 := fun W => eq58g a3 a4 b3 b4 W
              have u0 := Kl.cell lg xi
              have u1 := Kl.cell lg yi
              have u2' := Kl.cell lg xr
              have u3' := Kl.cell lg yr
              have hrk : r < N - k := by omega
              have hqk : q < N - k := by omega
              have hLm : m < L.length := by omega
              have HLM := Lib.hid hLm
              clear hkq hr hpt hne hLN hpa hpb hLm
              by_cases heq : (a3, a4) = (b3, b4)
              · have dq : decide (((a3, a4) : Pt) = (b3, b4)) = true := decide_eq_true heq
                rw [dq] at E1
                clear dq
                have HEQ := Lib.hid heq
                clear heq
                go_wp2_with fail
                refine wp_region_below (by kernel_rfl) (by kernel_rfl) ?_
                repeat (go_big_quiet_step (fail))
                refine wpQuiet_nil ?_
                rintro _ ⟨wq, rfl⟩
                have HO2 := Lib.hid (show OwnG wq.W n₀ g c L from own_grow HO.out wq.h)
                have HB2 := Lib.hid (Below.andThen HB.out wq.h (by omega))
                clear u0 u1 u2' u3' xi yi xr yr HO HB lg
                generalize wq.W = w2 at *
                go_wp2_with fail
                refine ⟨⟨m, q + 1, i + 1, L, by have := HKQ.out; omega, rfl, by simp, by omega, by omega, by omega, Lib.hid (HC.out.same (by rw [HN.out]; exact hlt2) (by rw [PA.out, PR.out]; exact HEQ.out)), HO2, HB2⟩, by simp [intOf]; omega⟩
              · have dq : decide (((a3, a4) : Pt) = (b3, b4)) = false := decide_eq_false heq
                rw [dq] at E1
                clear dq
                have HEQ := Lib.hid heq
                clear heq
                go_wp2_with fail
                refine wp_region_below (by kernel_rfl) (by kernel_rfl) ?_
                repeat (go_big_quiet_step (fail))
                refine wpQuiet_nil ?_
                rintro _ ⟨wq, rfl⟩
                have HO2 := Lib.hid (show OwnG wq.W n₀ g c L from own_grow HO.out wq.h)
                have HB2 := Lib.hid (Below.andThen HB.out wq.h (by omega))
                have x3 := below_at wq.h lg xi
                have x4 := below_at wq.h lg yi
                have lg2 : g < wq.W.heap.size := Nat.lt_of_lt_of_le lg wq.h.size
                clear u0 u1 u2' u3' xi yi xr yr HO HB lg
                generalize wq.W = w2 at *
                have fz1 := HO2.out.frozen (m * 2)
                have fz2 : (w2.setCell ⟨g, m * 2, none⟩ (.int .i64 a3)).frozen? ⟨g, m * 2 + 1, none⟩ = false := by
                  obtain ⟨cur, hh, _⟩ := HO2.out.heap
                  have := setCell_heap w2 g (m * 2) (.int .i64 a3) cur hh
                  simp [World.frozen?, this]
                have hmN : m < N := by omega
                obtain ⟨hpt2, _, _⟩ := HO2.out.pts (fun h => by have := HLM.out; rw [h] at this; simp at this)
                have xm := hpt2.x m HLM.out
                have ym := hpt2.y m HLM.out
                rw [Nat.zero_add] at xm ym
                generalize L[m]'HLM.out = pm at xm ym
                clear hpt2
                have O3 := Lib.hid (HO2.out.set m HLM.out a3 a4)
                have B3 := Lib.hid ((HB2.out.setCell (p := ⟨g, m * 2, none⟩) hg0 (.int .i64 a3)).setCell (p := ⟨g, m * 2 + 1, none⟩) hg0 (.int .i64 a4))
                have C3 := Lib.hid (HC.out.new (by rw [HN.out]; exact hlt2) (by rw [PA.out, PR.out]; exact HEQ.out))
                go_wp2_with fail
                refine ⟨⟨m + 1, q + 1, i + 1, L.set m (a3, a4), by have := HKQ.out; omega, by simp, by simp, by omega, by omega, by omega, Lib.hid (by have := C3.out; rw [PA.out] at this; exact this), O3, B3⟩, by simp [intOf]; omega⟩
            · have hd2 : decide (q < N - k) = false := decide_eq_false (by omega)
              obtain rfl : i = N := by omega
              have HKQ := Lib.hid hkq
              clear hkq
              have hcm : ¬ c = m := by have := HN.out; omega
              have hmc : m < c := by have := HN.out; omega
              have hLi : L.length = i := by rw [HC.out.len, HN.out]
              obtain ⟨W', hcl, hoW, hbW⟩ := clear_own (cc := c - m) HO.out (show m < L.length by omega) 0
              have HOW := Lib.hid hoW
              have HBW := Lib.hid (HB.out.trans hbW)
              have HLI := Lib.hid hLi
              rw [hLi] at hcl
              clear hoW hbW hLi
              go_wp2_with fail
              have hdd : dd ps = L.take m := by
                have h1 := HC.out.tk
                rw [← HN.out, List.take_length] at h1
                exact h1.symm
              have hlm : m = (L.take m).length := by rw [List.length_take, HLI.out]; omega
              exact bodyPost_ret (v := .slice (some ⟨g, 0, none⟩) m c) (by simp [results, Try.results87, go_sem]) rfl ⟨m, by rw [hdd]; exact hlm, rfl, ⟨_, HOW.out, by rw [hdd, List.take_append_of_le_length (by omega), List.take_of_length_le (by omega)]⟩, HBW.out⟩
      · have dq : decide (((a1, a2) : Pt) = (b1, b2)) = false := decide_eq_false heq
        rw [dq] at E1
        clear dq
        have HEQ := Lib.hid heq
        clear heq
        go_wp2_with fail
        have lg : g < wr.heap.size := by
          obtain ⟨cur, hh, _⟩ := HO.out.heap
          exact (Array.getElem?_eq_some_iff.1 hh).1
        have u0 := Kl.cell lg xj
        have u1 := Kl.cell lg yj
        have u2 := Kl.cell lg xk
        have u3 := Kl.cell lg yk
        refine wp_region_below (by kernel_rfl) (by kernel_rfl) ?_
        repeat (go_big_quiet_step (fail))
        refine wpQuiet_nil ?_
        rintro _ ⟨wq, rfl⟩
        have HO2 := Lib.hid (show OwnG wq.W n₀ g c ps from own_grow HO.out wq.h)
        have HB2 := Lib.hid (Below.andThen HB.out wq.h (by omega))
        have x1 := below_at wq.h lg xk
        have x2 := below_at wq.h lg yk
        clear u0 u1 u2 u3 xj yj xk yk HO HB lg
        generalize wq.W = w2 at *
        go_wp2_with fail
        refine ⟨⟨k + 1, by omega, by omega, by simp, Lib.hid (fun t h0 h1 => ?_), HO2, HB2⟩, by simp [intOf]; omega⟩
        by_cases ht : t = k
        · rw [ht, PA.out, HK.out]; exact HEQ.out
        · exact HD.out t h0 (by omega)
    · have hd : decide ((k : Int) < (N : Int)) = false := decide_eq_false (by omega)
      obtain rfl : k = N := by omega
      go_wp2_with fail
      have hdd : dd ps = ps := by
        have := dd_take_ne ps k (by rw [HN.out]; omega) HD.out
        rw [← HN.out, List.take_length] at this; exact this
      exact bodyPost_ret (v := .slice (some ⟨g, 0, none⟩) k c) (by simp [results, Try.results87, go_sem]) rfl ⟨k, by rw [hdd, HN.out], rfl, ⟨ps, HO.out, by rw [hdd, ← HN.out, List.take_length]⟩, HB.out⟩
end Go.Proofs.Ytlehddifcjklgaa
