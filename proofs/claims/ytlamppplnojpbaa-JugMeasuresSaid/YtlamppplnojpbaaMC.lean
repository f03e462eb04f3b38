import Derived.Test.YtlamppplnojpbaaMB
import Derived.Laws.AppendOwn
import Derived.ChangeKeysEq
import Derived.Maps.OwnIn
import Derived.Maps.AppendAt
import Derived.RangeFuncNested
import Derived.RangeFuncBound
import Derived.RangeFuncCalls
import Derived.RangeFuncLeaves
import Derived.Shelf.Abstract
import Derived.Shelf.RegionOpen
import Derived.WalkKit
import Derived.WalkMore
import Derived.OwnWalkIn
import Derived.TacticsInMore
import Derived.LoopNIn
import Derived.LoopIn
import Derived.WalkSpells
import Derived.WalkLawsBesides
import Derived.BigQuiet
import Derived.Deep.QuietTactic
import Derived.Lib.Hide
import Derived.Deep.RegionHeld3
import Derived.StillTailTactics
import Derived.Deep.LoopGhost
import Derived.Maps.OwnSet
import Derived.Lib.IndexAny
import Derived.Sort.QuietThIn
import Derived.Sort.QuietTacIn
import Derived.Sort.BigQuietIn
import Derived.Maps.RangeWalk
namespace Go.Proofs.Ytlamppplnojpbaa
open Go.RowKit Go.Shelf
attribute [local go_sem] Oper.semAt_some
theorem info3i : ∃ i, Try.prog.info? 3 = some i := by
  cases h : Try.prog.info? 3 with
  | some i => exact ⟨i, rfl⟩
  | none =>
    have : (Try.prog.info? 3).isSome = true := by kernel_rfl
    rw [h] at this; cases this
theorem eqI3 (a b : Int) (W : World) : (Op.equalIn 9999 3 (.int .i64 a) (.int .i64 b)).run Try.prog W = .ok (a == b) W := by
  first
    | kernel_rfl
    | simp [Op.equalIn, go_sem]
theorem part30 (a b c d : Int) (W : World) : (part 3 #[.int .i64 a, .int .i64 b, .int .i64 c, .int .i64 d] 0).run Try.prog W = .ok (.int .i64 a) W := by kernel_rfl
theorem part31 (a b c d : Int) (W : World) : (part 3 #[.int .i64 a, .int .i64 b, .int .i64 c, .int .i64 d] 1).run Try.prog W = .ok (.int .i64 b) W := by kernel_rfl
theorem part32 (a b c d : Int) (W : World) : (part 3 #[.int .i64 a, .int .i64 b, .int .i64 c, .int .i64 d] 2).run Try.prog W = .ok (.int .i64 c) W := by kernel_rfl
theorem part33 (a b c d : Int) (W : World) : (part 3 #[.int .i64 a, .int .i64 b, .int .i64 c, .int .i64 d] 3).run Try.prog W = .ok (.int .i64 d) W := by kernel_rfl
theorem eq77 (x0 x1 x2 x3 g0 g1 g2 g3 : Int) (W : World) : (Op.equalIn 10000 77 (.agg #[.int .i64 x0, .int .i64 x1, .int .i64 x2, .int .i64 x3]) (.agg #[.int .i64 g0, .int .i64 g1, .int .i64 g2, .int .i64 g3])).run Try.prog W = .ok (decide ([x0, x1, x2, x3] = [g0, g1, g2, g3])) W := by
  obtain ⟨i, hi⟩ := info3i
  refine (run_equalIn_array (P := Try.prog) W 9999 _ _ Try.underlying77 hi).trans ?_
  rw [cells3]
  simp only [List.range, List.range.loop, Op.eqItems, Sem.run_bind, Nat.mul_one, part30, Result.andThen_ok, eqI3]
  by_cases h0 : x0 = g0
  · by_cases h1 : x1 = g1
    · by_cases h2 : x2 = g2
      · by_cases h3 : x3 = g3
        · simp [h0, h1, h2, h3, go_sem, eqI3]
        · simp [h0, h1, h2, h3, go_sem, eqI3]
      · simp [h0, h1, h2, go_sem, eqI3]
    · simp [h0, h1, go_sem, eqI3]
  · simp [h0, go_sem]
set_option maxRecDepth 100000 in
set_option maxHeartbeats 400000 in
/-- a filling is the goal -/
theorem wayGoal_any (g0 g1 g2 g3 x0 x1 x2 x3 : Int) (b : Nat) (W : World) (hb : Row W b 77 [.int .i64 g0, .int .i64 g1, .int .i64 g2, .int .i64 g3]) :
    Calls Try.prog 58 #[.agg #[.int .i64 x0, .int .i64 x1, .int .i64 x2, .int .i64 x3], .pointer (some ⟨b, 0, none⟩)] W fun e w' => e = .returned (.bool (decide ([x0, x1, x2, x3] = [g0, g1, g2, g3]))) ∧ Below W.heap.size W w' := by
  have ba := (Below.refl W.heap.size W).alloc (Nat.le_refl _) (.cells #[.int .i64 x0, .int .i64 x1, .int .i64 x2, .int .i64 x3] 77)
  have r1 := hb.below ba hb.lt
  have c0 : (W.alloc (.cells #[.int .i64 x0, .int .i64 x1, .int .i64 x2, .int .i64 x3] 77)).cell? ⟨b, 0, none⟩ = some (.int .i64 g0) := r1.cell 0
  have c1 : (W.alloc (.cells #[.int .i64 x0, .int .i64 x1, .int .i64 x2, .int .i64 x3] 77)).cell? ⟨b, 1, none⟩ = some (.int .i64 g1) := r1.cell 1
  have c2 : (W.alloc (.cells #[.int .i64 x0, .int .i64 x1, .int .i64 x2, .int .i64 x3] 77)).cell? ⟨b, 2, none⟩ = some (.int .i64 g2) := r1.cell 2
  have c3 : (W.alloc (.cells #[.int .i64 x0, .int .i64 x1, .int .i64 x2, .int .i64 x3] 77)).cell? ⟨b, 3, none⟩ = some (.int .i64 g3) := r1.cell 3
  have BA := Lib.hid ba
  have E := Lib.hid (eq77 x0 x1 x2 x3 g0 g1 g2 g3 (W.alloc (.cells #[.int .i64 x0, .int .i64 x1, .int .i64 x2, .int .i64 x3] 77)))
  generalize decide ([x0, x1, x2, x3] = [g0, g1, g2, g3]) = bb at *
  clear hb r1 ba
  go_enter Try.func58, Try.ntmps58
  go_wp2_with fail
  rw [E.out, Result.andThen_ok]
  go_wp2_with fail
  go_ret
  exact ⟨rfl, BA.out⟩
set_option maxRecDepth 100000 in
set_option maxHeartbeats 400000 in
/-- nothing is the goal -/
theorem noGoal_any (x0 x1 x2 x3 : Int) (W : World) : Calls Try.prog 68 #[.agg #[.int .i64 x0, .int .i64 x1, .int .i64 x2, .int .i64 x3]] W fun e w' => e = .returned (.bool false) ∧ Below W.heap.size W w' := by
  have BA := Lib.hid ((Below.refl W.heap.size W).alloc (Nat.le_refl _) (.cells #[.int .i64 x0, .int .i64 x1, .int .i64 x2, .int .i64 x3] 77))
  go_enter Try.func68, Try.ntmps68
  go_wp2_with fail
  go_ret
  exact ⟨rfl, BA.out⟩
set_option maxRecDepth 100000 in
set_option maxHeartbeats 400000 in
/-- a filling holds the amount -/
theorem amountGoal_any (n : Nat) (hn : n ≤ 4) (p0 p1 p2 p3 a x0 x1 x2 x3 : Int) (bj ba : Nat) (W : World) (hj : Row W bj 80 [.int .i64 (n : Int), .int .i64 p0, .int .i64 p1, .int .i64 p2, .int .i64 p3]) (ha : Row W ba 3 [.int .i64 a]) :
    Calls Try.prog 66 #[.agg #[.int .i64 x0, .int .i64 x1, .int .i64 x2, .int .i64 x3], .pointer (some ⟨bj, 0, none⟩), .pointer (some ⟨ba, 0, none⟩)] W fun e w' => e = .returned (.bool (holdsB n [x0, x1, x2, x3] a)) ∧ Below W.heap.size W w' := by
  have bb := (Below.refl W.heap.size W).alloc (Nat.le_refl _) (.cells #[.int .i64 x0, .int .i64 x1, .int .i64 x2, .int .i64 x3] 77)
  have r1 := hj.below bb hj.lt
  have r2 := ha.below bb ha.lt
  have c0 : (W.alloc (.cells #[.int .i64 x0, .int .i64 x1, .int .i64 x2, .int .i64 x3] 77)).cell? ⟨bj, 0, none⟩ = some (.int .i64 (n : Int)) := r1.cell 0
  have c1 : (W.alloc (.cells #[.int .i64 x0, .int .i64 x1, .int .i64 x2, .int .i64 x3] 77)).cell? ⟨bj, 1, none⟩ = some (.int .i64 p0) := r1.cell 1
  have c2 : (W.alloc (.cells #[.int .i64 x0, .int .i64 x1, .int .i64 x2, .int .i64 x3] 77)).cell? ⟨bj, 2, none⟩ = some (.int .i64 p1) := r1.cell 2
  have c3 : (W.alloc (.cells #[.int .i64 x0, .int .i64 x1, .int .i64 x2, .int .i64 x3] 77)).cell? ⟨bj, 3, none⟩ = some (.int .i64 p2) := r1.cell 3
  have c4 : (W.alloc (.cells #[.int .i64 x0, .int .i64 x1, .int .i64 x2, .int .i64 x3] 77)).cell? ⟨bj, 4, none⟩ = some (.int .i64 p3) := r1.cell 4
  have c5 : (W.alloc (.cells #[.int .i64 x0, .int .i64 x1, .int .i64 x2, .int .i64 x3] 77)).cell? ⟨ba, 0, none⟩ = some (.int .i64 a) := r2.cell 0
  have BA := Lib.hid bb
  have Z := Lib.hid (size_al W (.cells #[.int .i64 x0, .int .i64 x1, .int .i64 x2, .int .i64 x3] 77))
  have HH := Lib.hid (fun W => holds_any n hn p0 p1 p2 p3 x0 x1 x2 x3 a W)
  generalize holdsB n [x0, x1, x2, x3] a = bo at *
  clear hj ha r1 r2 bb
  go_enter Try.func66, Try.ntmps66
  go_wp2_with fail
  refine (HH.out _).mono ?_
  rintro e w1 ⟨rfl, hb⟩
  have HB := Lib.hid hb
  clear hb
  go_wp2_with fail
  go_ret
  exact ⟨rfl, Below.andThen BA.out HB.out (Nat.le_refl _)⟩
end Go.Proofs.Ytlamppplnojpbaa
namespace Go.Proofs.Ytlamppplnojpbaa
open Go.RowKit Go.Shelf
attribute [local go_sem] Oper.semAt_some
/-! what the search's map says -/
theorem lookA_key : ∀ (A : Sn) (F : List Int), F ∈ A.map Prod.fst → (lookA A F).isSome = true
  | [], _, h => by simp at h
  | p :: r, F, h => by
    rw [lookA]
    by_cases e : p.1 = F
    · rw [if_pos e]; rfl
    · rw [if_neg e]
      rw [List.map_cons, List.mem_cons] at h
      rcases h with h | h
      · exact absurd h.symm e
      · exact lookA_key r F h
/-- how the fillings of a search were come to -/
def TreeA (P : List Int) (ss : List (Int × Int)) (S : List Int) : Sn → Prop
  | [] => True
  | p :: r => TreeA P ss S r ∧ (lookA r p.1).isSome = false ∧ FitP P p.1 ∧ p.2.frm.length = 4 ∧
      ((p.1 = S ∧ p.2 = c0 ∧ r = []) ∨ ∃ c', lookA r p.2.frm = some c' ∧ p.2.k = c'.k + 1 ∧ p.1 = afterF P p.2.frm p.2.sa p.2.sb ∧ (p.2.sa, p.2.sb) ∈ ss)
theorem lookA_older {r : Sn} {p : List Int × Cm} {F : List Int} {c : Cm} (hn : (lookA r p.1).isSome = false) (h : lookA r F = some c) : lookA (p :: r) F = some c := by
  rw [lookA, if_neg (fun e => by subst e; rw [h] at hn; cases hn)]; exact h
theorem TreeA.fit {P : List Int} {ss : List (Int × Int)} {S : List Int} : ∀ {A : Sn}, TreeA P ss S A → ∀ {F c}, lookA A F = some c → FitP P F ∧ c.frm.length = 4
  | [], _, _, _, h => by simp [lookA] at h
  | p :: r, ht, F, c, h => by
    obtain ⟨h1, h2, h3, h4, _⟩ := ht
    rw [lookA] at h
    by_cases e : p.1 = F
    · rw [if_pos e] at h; cases h; subst e; exact ⟨h3, h4⟩
    · rw [if_neg e] at h; exact TreeA.fit h1 h
theorem TreeA.knn {P : List Int} {ss : List (Int × Int)} {S : List Int} : ∀ {A : Sn}, TreeA P ss S A → ∀ {F c}, lookA A F = some c → 0 ≤ c.k ∧ c.k < A.length
  | [], _, _, _, h => by simp [lookA] at h
  | p :: r, ht, F, c, h => by
    obtain ⟨h1, h2, h3, h4, h5⟩ := ht
    rw [lookA] at h
    by_cases e : p.1 = F
    · rw [if_pos e] at h; cases h
      rcases h5 with ⟨_, h6, _⟩ | ⟨c', h6, h7, _⟩
      · rw [h6, List.length_cons]; simp only [c0]; omega
      · have := TreeA.knn h1 h6
        rw [List.length_cons]; omega
    · rw [if_neg e] at h
      have := TreeA.knn h1 h
      rw [List.length_cons]; omega
theorem GoodT.older {r : Sn} {p : List Int × Cm} (hn : (lookA r p.1).isSome = false) : ∀ (n : Nat) {c : Cm}, GoodT n r c → (∀ {F c}, lookA r F = some c → 0 < c.k → (lookA r c.frm).isSome = true) → (0 < c.k → (lookA r c.frm).isSome = true) → GoodT n (p :: r) c
  | 0, _, h, _, _ => h
  | n + 1, c, h, hA, hc => by
    rw [GoodT] at h ⊢
    have hs := hc (by rw [h.1]; omega)
    obtain ⟨c', hc'⟩ := Option.isSome_iff_exists.1 hs
    have e1 : cmOf r c.frm = c' := by unfold cmOf; rw [hc']; rfl
    have e2 : cmOf (p :: r) c.frm = c' := by unfold cmOf; rw [lookA_older hn hc']; rfl
    rw [e1] at h
    rw [e2]
    exact ⟨h.1, h.2.1, GoodT.older hn n h.2.2 hA (fun h0 => hA hc' h0)⟩
theorem TreeA.par {P : List Int} {ss : List (Int × Int)} {S : List Int} : ∀ {A : Sn}, TreeA P ss S A → ∀ {F c}, lookA A F = some c → 0 < c.k → ∃ c', lookA A c.frm = some c' ∧ c.k = c'.k + 1 ∧ F = afterF P c.frm c.sa c.sb ∧ (c.sa, c.sb) ∈ ss
  | [], _, _, _, h, _ => by simp [lookA] at h
  | p :: r, ht, F, c, h, hk => by
    obtain ⟨h1, h2, h3, h4, h5⟩ := ht
    rw [lookA] at h
    by_cases e : p.1 = F
    · rw [if_pos e] at h; cases h; subst e
      rcases h5 with ⟨_, h6, _⟩ | ⟨c', h6, h7⟩
      · rw [h6] at hk; simp [c0] at hk
      · exact ⟨c', lookA_older h2 h6, h7⟩
    · rw [if_neg e] at h
      obtain ⟨c', h6, h7⟩ := TreeA.par h1 h hk
      exact ⟨c', lookA_older h2 h6, h7⟩
theorem TreeA.good {P : List Int} {ss : List (Int × Int)} {S : List Int} {A : Sn} (ht : TreeA P ss S A) : ∀ (n : Nat) {F c}, lookA A F = some c → c.k = (n : Int) → GoodT n A c
  | 0, F, c, h, hk => ⟨by simpa using hk, (ht.fit h).2⟩
  | n + 1, F, c, h, hk => by
    obtain ⟨c', h1, h2, h3⟩ := ht.par h (by rw [hk]; omega)
    rw [GoodT]
    have e : cmOf A c.frm = c' := by unfold cmOf; rw [h1]; rfl
    rw [e]
    exact ⟨by rw [hk]; omega, (ht.fit h1).1.fok, TreeA.good ht n h1 (by omega)⟩
theorem visit_tree {P : List Int} {gl : List Int → Bool} {here : List Int} {cnt : Int} {ls : Int} {m : Nat} (hls : ls = -1 ∨ ls = 0) (hm : ls + (m : Int) ≤ 4) {S : List Int} {c1 : Cm} (hc : cnt = c1.k + 1) (hh : FitP P here) :
    ∀ (xs : List (Int × Int)) (s t : Sn × List (List Int)) (o : Option (List Int)), (∀ x ∈ xs, x ∈ stepsL ls m) → TreeA P (stepsL ls m) S s.1 → lookA s.1 here = some c1 → visit P gl here cnt xs s = (t, o) → TreeA P (stepsL ls m) S t.1 ∧ (∀ {F c}, lookA s.1 F = some c → lookA t.1 F = some c) ∧
      (∀ q ∈ t.2, q ∈ s.2 ∨ (lookA t.1 q).isSome = true)
  | [], s, t, o, _, ht, hl, h => by rw [visit] at h; cases h; exact ⟨ht, fun h => h, fun q hq => .inl hq⟩
  | x :: xs, s, t, o, hx, ht, hl, h => by
    rw [visit] at h
    have hxs : ∀ y ∈ xs, y ∈ stepsL ls m := fun y hy => hx y (List.mem_cons_of_mem _ hy)
    by_cases e : (lookA s.1 (afterF P here x.1 x.2)).isSome = true
    · rw [if_pos e] at h; exact visit_tree hls hm hc hh xs s t o hxs ht hl h
    · rw [if_neg e] at h
      have e' : (lookA s.1 (afterF P here x.1 x.2)).isSome = false := by simpa using e
      have hs := mem_step (hx x List.mem_cons_self)
      have ht2 : TreeA P (stepsL ls m) S ((afterF P here x.1 x.2, (⟨here, x.1, x.2, cnt⟩ : Cm)) :: s.1) := ⟨ht, e', hh.after (by omega) (by omega) hs.2.2.2.2, hh.1, .inr ⟨c1, hl, hc, rfl, hx x List.mem_cons_self⟩⟩
      have hold : ∀ {F c}, lookA s.1 F = some c → lookA ((afterF P here x.1 x.2, (⟨here, x.1, x.2, cnt⟩ : Cm)) :: s.1) F = some c := fun h => lookA_older e' h
      split at h
      · cases h
        exact ⟨ht2, hold, fun q hq => .inl hq⟩
      · obtain ⟨h1, h2, h3⟩ := visit_tree hls hm hc hh xs ((afterF P here x.1 x.2, ⟨here, x.1, x.2, cnt⟩) :: s.1, s.2 ++ [afterF P here x.1 x.2]) t o hxs ht2 (hold hl) h
        refine ⟨h1, fun h => h2 (hold h), fun q hq => ?_⟩
        rcases h3 q hq with h | h
        · rcases List.mem_append.1 h with h | h
          · exact .inl h
          · rw [List.mem_singleton.1 h]
            have : lookA ((afterF P here x.1 x.2, (⟨here, x.1, x.2, cnt⟩ : Cm)) :: s.1) (afterF P here x.1 x.2) = some ⟨here, x.1, x.2, cnt⟩ := by rw [lookA, if_pos rfl]
            exact .inr (by rw [h2 this]; rfl)
        · exact .inr h
theorem visit_found {P : List Int} {gl : List Int → Bool} {here : List Int} {cnt : Int} : ∀ (xs : List (Int × Int)) (s t : Sn × List (List Int)) (g : List Int), visit P gl here cnt xs s = (t, some g) → (lookA t.1 g).isSome = true ∧ gl g = true
  | [], s, t, g, h => by rw [visit] at h; cases h
  | x :: xs, s, t, g, h => by
    rw [visit] at h
    split at h
    · exact visit_found xs _ t g h
    · split at h
      · rename_i hg; cases h; exact ⟨by rw [lookA, if_pos rfl]; rfl, hg⟩
      · exact visit_found xs _ t g h
theorem bfs_tree (P : List Int) (gl : List Int → Bool) (ls : Int) (m : Nat) (hls : ls = -1 ∨ ls = 0) (hm : ls + (m : Int) ≤ 4) (S : List Int) : ∀ (M : Nat) (A : Sn) (qs : List (List Int)) (res : Sn × Option (List Int)), TreeA P (stepsL ls m) S A → (∀ q ∈ qs, (lookA A q).isSome = true) →
    bfs P gl (stepsL ls m) M A qs = some res → TreeA P (stepsL ls m) S res.1 ∧ (∀ {F c}, lookA A F = some c → lookA res.1 F = some c) ∧ (∀ g, res.2 = some g → (lookA res.1 g).isSome = true ∧ gl g = true)
  | 0, _, _, _, _, _, h => by simp [bfs] at h
  | M + 1, A, [], res, ht, _, h => by rw [bfs] at h; cases h; exact ⟨ht, fun h => h, fun g hg => by cases hg⟩
  | M + 1, A, q :: qs, res, ht, hq, h => by
    rw [bfs] at h
    obtain ⟨c1, hc1⟩ := Option.isSome_iff_exists.1 (hq q List.mem_cons_self)
    have hcnt : ((lookA A q).map Cm.k).getD 0 + 1 = c1.k + 1 := by rw [hc1]; rfl
    rw [hcnt] at h
    rcases hv : visit P gl q (c1.k + 1) (stepsL ls m) (A, qs) with ⟨⟨A', qs'⟩, o⟩
    rw [hv] at h
    obtain ⟨h1, h2, h3⟩ := visit_tree hls hm (cnt := c1.k + 1) rfl (ht.fit hc1).1 (stepsL ls m) (A, qs) (A', qs') o (fun x hx => hx) ht hc1 hv
    cases o with
    | some g =>
      cases h
      exact ⟨h1, h2, fun g' hg' => by cases hg'; exact visit_found _ _ _ _ hv⟩
    | none =>
      obtain ⟨k1, k2, k3⟩ := bfs_tree P gl ls m hls hm S M A' qs' res h1 (fun q' hq' => by
        rcases h3 q' hq' with h | h
        · obtain ⟨c2, hc2⟩ := Option.isSome_iff_exists.1 (hq q' (List.mem_cons_of_mem _ h))
          rw [h2 hc2]; rfl
        · exact h) h
      exact ⟨k1, fun h => k2 (h2 h), k3⟩
theorem tree_start {P : List Int} {ss : List (Int × Int)} {S : List Int} (hS : FitP P S) : TreeA P ss S [(S, c0)] := ⟨trivial, rfl, hS, rfl, .inl ⟨rfl, rfl, rfl⟩⟩
theorem srch_tree (P : List Int) (gl : List Int → Bool) (ls : Int) (m : Nat) (hls : ls = -1 ∨ ls = 0) (hm : ls + (m : Int) ≤ 4) (S : List Int) (hS : FitP P S) (M : Nat) (res : Sn × Option (List Int)) (h : srch P gl (stepsL ls m) M S = some res) :
    TreeA P (stepsL ls m) S res.1 ∧ lookA res.1 S = some c0 ∧ (∀ g, res.2 = some g → (lookA res.1 g).isSome = true ∧ gl g = true) := by
  unfold srch at h
  have hs : lookA [(S, c0)] S = some c0 := by rw [lookA, if_pos rfl]
  split at h
  · rename_i hg
    cases h
    exact ⟨tree_start hS, hs, fun g hg' => by cases hg'; exact ⟨by rw [hs]; rfl, hg⟩⟩
  · obtain ⟨h1, h2, h3⟩ := bfs_tree P gl ls m hls hm S M _ _ res (tree_start hS) (fun q hq => by rw [List.mem_singleton.1 hq, hs]; rfl) h
    exact ⟨h1, h2 hs, h3⟩
end Go.Proofs.Ytlamppplnojpbaa
namespace Go.Proofs.Ytlamppplnojpbaa
open Go.RowKit Go.Shelf
attribute [local go_sem] Oper.semAt_some
section
variable {P : Program} {Q : Exit → Act → World → Prop}
/-- each operation of a region puts a value of its kind, whatever has come up besides what it waits for -/
def relSteps (P : Program) (Q : Exit → Act → World → Prop) (ops : Array Oper) (a : Act) (slots : List Nat) (R : List (Value → World → Prop)) (w₀ : World) (len : Nat) : List Oper → Nat → Prop
  | [], _ => True
  | o :: rest, i => (∀ (vs : List Value) (w : World) (K : Act → World → Prop), Below w₀.heap.size w₀ w → vs.length = len → (∀ e ∈ o.after, Region.binds .any e = true → ∃ v, vs[e.on]? = some v ∧ (R.getD e.on (fun _ _ => True)) v w) →
      (∀ v' w', Below w.heap.size w w' → (R.getD i (fun _ _ => True)) v' w' → K (putAll a slots (vs.set i v')) w') → wpList P ops (Exit.then K Q) [o] (putAll a slots vs) w) ∧ relSteps P Q ops a slots R w₀ len rest (i + 1)
theorem relSteps_get {ops : Array Oper} {a : Act} {slots : List Nat} {R : List (Value → World → Prop)} {w₀ : World} {len : Nat} : ∀ {l : List Oper} {k i : Nat} {o : Oper}, relSteps P Q ops a slots R w₀ len l k → l[i]? = some o →
    ∀ (vs : List Value) (w : World) (K : Act → World → Prop), Below w₀.heap.size w₀ w → vs.length = len → (∀ e ∈ o.after, Region.binds .any e = true → ∃ v, vs[e.on]? = some v ∧ (R.getD e.on (fun _ _ => True)) v w) →
      (∀ v' w', Below w.heap.size w w' → (R.getD (k + i) (fun _ _ => True)) v' w' → K (putAll a slots (vs.set (k + i) v')) w') → wpList P ops (Exit.then K Q) [o] (putAll a slots vs) w
  | [], _, _, _, _, h => by simp at h
  | o :: rest, k, 0, o', hd, h => by
    simp at h; subst h
    exact hd.1
  | o :: rest, k, i + 1, o', hd, h => by
    have := relSteps_get (l := rest) (k := k + 1) (i := i) hd.2 (by simpa using h)
    rw [show k + 1 + i = k + (i + 1) by omega] at this
    exact this
theorem wp_region_rel {id : Nat} {a : Act} {w : World} {l : List Oper} (hm : P.follows .mixedOrders = true) (hd : waitsC l = true) (slots : List Nat) (R : List (Value → World → Prop)) (len : Nat) (hlen : l.length = len)
    (hstab : ∀ r ∈ R, ∀ (v : Value) (W W' : World), r v W → Below W.heap.size W W' → r v W')
    (h0 : ∃ vs, a = putAll a slots vs ∧ vs.length = len)
    (hsteps : relSteps P Q l.toArray a slots R w len l 0)
    (hend : ∀ vs W, Below w.heap.size w W → vs.length = len → (∀ i, i < len → ∃ v, vs[i]? = some v ∧ (R.getD i (fun _ _ => True)) v W) → Q .normal (putAll a slots vs) W) : (Code.region id l.toArray true).wp P Q a w := by
  obtain ⟨vs0, e0, el0⟩ := h0
  have hst : ∀ i v W W', (R.getD i (fun _ _ => True)) v W → Below W.heap.size W W' → (R.getD i (fun _ _ => True)) v W' := fun i v W W' h hb => by
    by_cases hi : i < R.length
    · rw [List.getD_eq_getElem?_getD, List.getElem?_eq_getElem hi] at h ⊢
      exact hstab _ (List.getElem_mem hi) v W W' h hb
    · rw [List.getD_eq_getElem?_getD, List.getElem?_eq_none (by omega)] at h ⊢
      exact trivial
  refine wp_region_slots2 hm hd slots (fun (bs : List Bool) (vs : List Value) W => Below w.heap.size w W ∧ vs.length = len ∧ ∀ i : Nat, bs[i]? = some true → ∃ v, vs[i]? = some v ∧ (R.getD i (fun _ _ => True)) v W) ⟨vs0, e0, (Below.refl _ _).drew, el0, fun i hi => ?_⟩ ?_ ?_
  · rw [List.getElem?_replicate] at hi
    split at hi <;> simp at hi
  · rintro i o bs vs W K ho ⟨hc, hl, hv⟩ hbl hb hw hK
    refine wpOp_of_list (by simpa using ho) ?_
    refine relSteps_get hsteps ho vs W K hc hl (fun e he hbe => ?_) (fun v' W' hbb hr => hK _ _ ⟨Below.andThen hc hbb (Nat.le_refl _), by rw [List.length_set]; exact hl, fun j hj => ?_⟩)
    · have h := hw e he hbe
      rw [List.getD_eq_getElem?_getD] at h
      refine hv _ ?_
      cases h2 : bs[e.on]? with
      | none => rw [h2] at h; simp at h
      | some b => rw [h2] at h; simp at h; rw [h]
    · by_cases hij : i = j
      · subst hij
        have hlt : i < l.length := (List.getElem?_eq_some_iff.1 ho).1
        refine ⟨v', ?_, by simpa using hr⟩
        rw [Nat.zero_add, List.getElem?_set_self (by omega)]
      · rw [List.getElem?_set_ne hij] at hj
        obtain ⟨v, h1, h2⟩ := hv j hj
        exact ⟨v, by rw [Nat.zero_add, List.getElem?_set_ne hij]; exact h1, hst _ _ _ _ h2 hbb⟩
  · rintro vs W ⟨hc, hl, hv⟩
    exact hend vs W hc hl (fun i hi => hv i (by rw [List.getElem?_replicate, if_pos (by omega)]))
end
theorem len_cons {vs : List Value} {n : Nat} (h : vs.length = n + 1) : ∃ x r, vs = x :: r ∧ r.length = n := by
  cases vs with
  | nil => simp at h
  | cons x r => exact ⟨x, r, rfl, by simpa using h⟩
def LitR (x : Value) : Value → World → Prop := fun v _ => v = x
theorem LitR.stab (x : Value) : ∀ (v : Value) (W W' : World), LitR x v W → Below W.heap.size W W' → LitR x v W' := fun _ _ _ h _ => h
theorem rel_get {vs : List Value} {n : Nat} {R : Value → World → Prop} {W : World} (h : ∃ v, vs[n]? = some v ∧ R v W) {x : Value} (hx : vs[n]? = some x) : R x W := by
  obtain ⟨v, h1, h2⟩ := h
  rw [hx] at h1
  cases h1
  exact h2
/-! what the calls hand on -/
def StepsV (n p0 p1 p2 p3 ls : Int) : Value → World → Prop := fun v W => ∃ bl bj, v = .func (.func 70) #[] #[.pointer (some ⟨bl, 0, none⟩), .pointer (some ⟨bj, 0, none⟩)] ∧ Row W bl 3 [.int .i64 ls] ∧ Row W bj 80 [.int .i64 n, .int .i64 p0, .int .i64 p1, .int .i64 p2, .int .i64 p3]
theorem StepsV.stab (n p0 p1 p2 p3 ls : Int) : ∀ (v : Value) (W W' : World), StepsV n p0 p1 p2 p3 ls v W → Below W.heap.size W W' → StepsV n p0 p1 p2 p3 ls v W' := fun _ _ _ ⟨bl, bj, h1, h2, h3⟩ hb => ⟨bl, bj, h1, h2.below hb h2.lt, h3.below hb h3.lt⟩
def foundV (b : Nat) (res : Sn × Option (List Int)) : Value := .agg #[.map (some b), .int .i64 ((res.2.getD [0, 0, 0, 0]).getD 0 0), .int .i64 ((res.2.getD [0, 0, 0, 0]).getD 1 0), .int .i64 ((res.2.getD [0, 0, 0, 0]).getD 2 0), .int .i64 ((res.2.getD [0, 0, 0, 0]).getD 3 0), .bool res.2.isSome]
def FoundV (res : Sn × Option (List Int)) : Value → World → Prop := fun v W => ∃ b, v = foundV b res ∧ SeenAt W b res.1.length (seenV res.1)
theorem FoundV.stab (res : Sn × Option (List Int)) : ∀ (v : Value) (W W' : World), FoundV res v W → Below W.heap.size W W' → FoundV res v W' := fun _ _ _ ⟨b, h1, h2⟩ hb => ⟨b, h1, h2.grow hb⟩
def MapV (A : Sn) : Value → World → Prop := fun v W => ∃ b, v = .map (some b) ∧ SeenAt W b A.length (seenV A)
theorem MapV.stab (A : Sn) : ∀ (v : Value) (W W' : World), MapV A v W → Below W.heap.size W W' → MapV A v W' := fun _ _ _ ⟨b, h1, h2⟩ hb => ⟨b, h1, h2.grow hb⟩
def WayV (N : Nat) (ps : List Pt) (ok : Bool) : Value → World → Prop := fun v W => ∃ s, v = .tuple #[s, .bool ok] ∧ OwnP W N s ps
theorem WayV.stab (N : Nat) (ps : List Pt) (ok : Bool) : ∀ (v : Value) (W W' : World), WayV N ps ok v W → Below W.heap.size W W' → WayV N ps ok v W' := fun _ _ _ ⟨s, h1, h2⟩ hb => ⟨s, h1, own_grow h2 hb⟩
def LstV (N : Nat) (ps : List Pt) : Value → World → Prop := fun v W => OwnP W N v ps
theorem LstV.stab (N : Nat) (ps : List Pt) : ∀ (v : Value) (W W' : World), LstV N ps v W → Below W.heap.size W W' → LstV N ps v W' := fun _ _ _ h hb => own_grow h hb
/-- the way that a search found -/
def wayF (res : Sn × Option (List Int)) : List Pt := match res.2 with
  | some g => (trc ((cmOf res.1 g).k.toNat) res.1 (cmOf res.1 g)).reverse
  | none => []
theorem TreeA.nodup {P : List Int} {ss : List (Int × Int)} {S : List Int} : ∀ {A : Sn}, TreeA P ss S A → (A.map Prod.fst).Nodup
  | [], _ => List.nodup_nil
  | p :: r, h => by
    obtain ⟨h1, h2, _⟩ := h
    rw [List.map_cons]
    exact List.nodup_cons.2 ⟨lookA_none r p.1 h2, TreeA.nodup h1⟩
theorem TreeA.fits {P : List Int} {ss : List (Int × Int)} {S : List Int} : ∀ {A : Sn}, TreeA P ss S A → ∀ p ∈ A, FitP P p.1
  | [], _, p, h => by cases h
  | p :: r, h, q, hq => by
    obtain ⟨h1, _, h3, _⟩ := h
    rcases List.mem_cons.1 hq with rfl | hq
    · exact h3
    · exact TreeA.fits h1 q hq
theorem TreeA.size {P : List Int} {ss : List (Int × Int)} {S : List Int} {A : Sn} (h : TreeA P ss S A) : A.length ≤ 28561 := keys_le h.fits h.nodup
/-- the way that was found, by the program -/
theorem found_any {P : List Int} {ss : List (Int × Int)} {S : List Int} (res : Sn × Option (List Int)) (ht : TreeA P ss S res.1) (hf : ∀ g, res.2 = some g → (lookA res.1 g).isSome = true) (b : Nat) (w : World) (hs : SeenAt w b res.1.length (seenV res.1)) :
    Calls Try.prog 59 #[foundV b res] w fun e w' => ∃ v, e = .returned v ∧ WayV w.heap.size (wayF res) res.2.isSome v w' ∧ Below w.heap.size w w' := by
  unfold foundV
  cases hr : res.2 with
  | none =>
    refine (foundway_any b res.1 0 0 0 0 false ⟨rfl, fun i hi => by match i, hi with | 0, _ | 1, _ | 2, _ | 3, _ => exact ⟨by decide, by decide⟩⟩ 0 (by omega) (fun h => by cases h) w hs).mono ?_
    rintro e w' ⟨v, rfl, h1, h2⟩
    refine ⟨_, rfl, ⟨v, rfl, ?_⟩, h2⟩
    unfold wayF
    rw [hr]
    exact h1
  | some g =>
    obtain ⟨c, hc⟩ := Option.isSome_iff_exists.1 (hf g hr)
    have hfit := ht.fit hc
    obtain ⟨g0, g1, g2, g3, rfl⟩ := agg4 g hfit.1.1
    have hcm : cmOf res.1 [g0, g1, g2, g3] = c := by unfold cmOf; rw [hc]; rfl
    have hk := ht.knn hc
    have hsz := ht.size
    refine (foundway_any b res.1 g0 g1 g2 g3 true hfit.1.fok c.k.toNat (by omega) (fun _ => by rw [hcm]; exact ht.good _ hc (by omega)) w hs).mono ?_
    rintro e w' ⟨v, rfl, h1, h2⟩
    refine ⟨_, rfl, ⟨v, rfl, ?_⟩, h2⟩
    unfold wayF
    rw [hr]
    dsimp only
    rw [if_pos rfl] at h1
    rw [hcm] at h1 ⊢
    exact h1
end Go.Proofs.Ytlamppplnojpbaa
namespace Go.Proofs.Ytlamppplnojpbaa
open Go.RowKit Go.Shelf
attribute [local go_sem] Oper.semAt_some
theorem WayV.mono {N N' : Nat} {ps : List Pt} {ok : Bool} {v : Value} {W : World} (h : WayV N ps ok v W) (hN : N' ≤ N) : WayV N' ps ok v W := by
  obtain ⟨s, h1, h2⟩ := h
  exact ⟨s, h1, owns_mono h2 hN⟩
def glA (n : Nat) (a : Int) : List Int → Bool := fun F => holdsB n F a
theorem jugs_open {zs : List Int} (h : jugsB zs = true) : 1 ≤ zs.length ∧ zs.length ≤ 4 ∧ ∃ p0 p1 p2 p3, padF zs = [p0, p1, p2, p3] ∧ jugV zs = .agg #[.int .i64 (zs.length : Int), .int .i64 p0, .int .i64 p1, .int .i64 p2, .int .i64 p3] ∧ (0 ≤ p0 ∧ p0 ≤ 12) ∧ (0 ≤ p1 ∧ p1 ≤ 12) ∧ (0 ≤ p2 ∧ p2 ≤ 12) ∧ (0 ≤ p3 ∧ p3 ≤ 12) := by
  unfold jugsB at h
  simp only [Bool.and_eq_true, decide_eq_true_eq, List.all_eq_true] at h
  obtain ⟨⟨h1, h2⟩, h3⟩ := h
  obtain ⟨p0, p1, p2, p3, hp⟩ := agg4 (padF zs) (padF_len zs)
  have hb : ∀ p ∈ padF zs, 0 ≤ p ∧ p ≤ 12 := fun p hp => by
    unfold padF at hp
    have hp2 := List.mem_of_mem_take hp
    rcases List.mem_append.1 hp2 with h | h
    · have := h3 p h
      unfold sizeB at this
      simp only [Bool.and_eq_true, decide_eq_true_eq] at this
      omega
    · have := (List.mem_replicate.1 h).2
      omega
  rw [hp] at hb
  refine ⟨h1, h2, p0, p1, p2, p3, hp, ?_, hb _ (by simp), hb _ (by simp), hb _ (by simp), hb _ (by simp)⟩
  unfold jugV
  rw [hp]
  simp [encI]
theorem len12 {vs : List Value} (h : vs.length = 12) : ∃ x0 x1 x2 x3 x4 x5 x6 x7 x8 x9 x10 x11, vs = [x0, x1, x2, x3, x4, x5, x6, x7, x8, x9, x10, x11] := by
  obtain ⟨x0, r0, rfl, h0⟩ := len_cons h
  obtain ⟨x1, r1, rfl, h1⟩ := len_cons h0
  obtain ⟨x2, r2, rfl, h2⟩ := len_cons h1
  obtain ⟨x3, r3, rfl, h3⟩ := len_cons h2
  obtain ⟨x4, r4, rfl, h4⟩ := len_cons h3
  obtain ⟨x5, r5, rfl, h5⟩ := len_cons h4
  obtain ⟨x6, r6, rfl, h6⟩ := len_cons h5
  obtain ⟨x7, r7, rfl, h7⟩ := len_cons h6
  obtain ⟨x8, r8, rfl, h8⟩ := len_cons h7
  obtain ⟨x9, r9, rfl, h9⟩ := len_cons h8
  obtain ⟨x10, r10, rfl, h10⟩ := len_cons h9
  obtain ⟨x11, r11, rfl, h11⟩ := len_cons h10
  obtain rfl := List.eq_nil_of_length_eq_zero h11
  exact ⟨_, _, _, _, _, _, _, _, _, _, _, _, rfl⟩
set_option maxRecDepth 100000 in
set_option maxHeartbeats 4000000 in
theorem measure_any (zs : List Int) (v : Value) (a : Int) (w : World) (hv : SlI w v zs) (hj : jugsB zs = true) (res : Sn × Option (List Int)) (hres : srch (padF zs) (glA zs.length a) (stepsL (-1) (zs.length + 1)) 28562 [0, 0, 0, 0] = some res) :
    Calls Try.prog 48 #[v, .int .i64 a] w fun e w' => ∃ x, e = .returned x ∧ WayV w.heap.size (wayF res) res.2.isSome x w' ∧ Below w.heap.size w w' := by
  obtain ⟨h1, h4, p0, p1, p2, p3, hp, hjv, b0, b1, b2, b3⟩ := jugs_open hj
  have hfit : FitP [p0, p1, p2, p3] [0, 0, 0, 0] := ⟨rfl, fun i hi => by match i, hi with | 0, _ | 1, _ | 2, _ | 3, _ => simp; omega⟩
  rw [hp] at hres
  obtain ⟨n, hn0⟩ : ∃ n, zs.length = n := ⟨_, rfl⟩
  rw [hn0] at hres hjv
  have hn : n ≤ 4 := by omega
  have hst := srch_tree _ _ (-1) (n + 1) (.inl rfl) (by omega) _ hfit _ res hres
  have hfd := fun b W hs => found_any res hst.1 (fun g hg => (hst.2.2 g hg).1) b W hs
  generalize res.2.isSome = ok at *
  generalize wayF res = way at *
  have HFD := Lib.hid hfd
  have HFIT := Lib.hid hfit
  have HRES := Lib.hid hres
  have HM := Lib.hid (show (n : Int) = -1 + ((n + 1 : Nat) : Int) by omega)
  have ba := (Below.refl w.heap.size w).alloc (Nat.le_refl _) (.cells #[.int .i64 a] 3)
  have za := size_al w (.cells #[.int .i64 a] 3)
  have ra := Row.new w 3 [.int .i64 a]
  have hc := jugsOf_any zs v _ (hv.grow ba) h4
  rw [hjv] at hc
  have HCJ := Lib.hid hc
  have BA := Lib.hid ba
  have RA := Lib.hid ra
  have ZA := Lib.hid za
  clear hp hj hjv b0 b1 b2 b3 h1 h4 hn0 hst hfd hfit hres ba za ra hc hv
  go_enter Try.func48, Try.ntmps48
  go_wp2_with fail
  refine HCJ.out.mono ?_
  rintro e w1 ⟨rfl, hb⟩
  have bj := (Below.refl w1.heap.size w1).alloc (Nat.le_refl _) (.cells #[.int .i64 (n : Int), .int .i64 p0, .int .i64 p1, .int .i64 p2, .int .i64 p3] 80)
  have rj := Row.new w1 80 [.int .i64 (n : Int), .int .i64 p0, .int .i64 p1, .int .i64 p2, .int .i64 p3]
  have ra2 := (RA.out.below hb RA.out.lt).below bj (RA.out.below hb RA.out.lt).lt
  have RJ := Lib.hid rj
  have RA2 := Lib.hid ra2
  have B2 := Lib.hid (Below.andThen (Below.andThen BA.out hb (Nat.le_refl _)) bj (Nat.le_refl _))
  have HN0 := Lib.hid B2.out.size
  have HAG := Lib.hid (fun (W2 : World) x0 x1 x2 x3 (hb2 : Below (w1.alloc (.cells #[.int .i64 (n : Int), .int .i64 p0, .int .i64 p1, .int .i64 p2, .int .i64 p3] 80)).heap.size (w1.alloc (.cells #[.int .i64 (n : Int), .int .i64 p0, .int .i64 p1, .int .i64 p2, .int .i64 p3] 80)) W2) => amountGoal_any n hn p0 p1 p2 p3 a x0 x1 x2 x3 w1.heap.size w.heap.size W2 (RJ.out.below hb2 RJ.out.lt) (RA2.out.below hb2 RA2.out.lt))
  clear hb bj rj ra2 HCJ
  go_wp2_with fail
  refine wp_region_rel (by kernel_rfl) (by kernel_rfl) [9, 10, 11, 12, 13, 14, 15, 16, 17, 18, 4, 5] [LitR (.agg #[.int .i64 0, .int .i64 0, .int .i64 0, .int .i64 0]), LitR (.agg #[.int .i64 (n : Int), .int .i64 p0, .int .i64 p1, .int .i64 p2, .int .i64 p3]), (StepsV (n : Int) p0 p1 p2 p3 (-1)), LitR (.agg #[.int .i64 (n : Int), .int .i64 p0, .int .i64 p1, .int .i64 p2, .int .i64 p3]), LitR (.func (.func 54) #[.agg #[.int .i64 (n : Int), .int .i64 p0, .int .i64 p1, .int .i64 p2, .int .i64 p3]] #[]), LitR (.func (.func 66) #[] #[.pointer (some ⟨w1.heap.size, 0, none⟩), .pointer (some ⟨w.heap.size, 0, none⟩)]), (FoundV res), (WayV w.heap.size way ok), (LstV w.heap.size way), LitR (.bool ok), (LstV w.heap.size way), LitR (.bool ok)] 12 rfl (List.forall_mem_cons.2 ⟨LitR.stab _, (List.forall_mem_cons.2 ⟨LitR.stab _, (List.forall_mem_cons.2 ⟨StepsV.stab _ _ _ _ _ _, (List.forall_mem_cons.2 ⟨LitR.stab _, (List.forall_mem_cons.2 ⟨LitR.stab _, (List.forall_mem_cons.2 ⟨LitR.stab _, (List.forall_mem_cons.2 ⟨FoundV.stab _, (List.forall_mem_cons.2 ⟨WayV.stab _ _ _, (List.forall_mem_cons.2 ⟨LstV.stab _ _, (List.forall_mem_cons.2 ⟨LitR.stab _, (List.forall_mem_cons.2 ⟨LstV.stab _ _, (List.forall_mem_cons.2 ⟨LitR.stab _, (fun _ h => nomatch h)⟩)⟩)⟩)⟩)⟩)⟩)⟩)⟩)⟩)⟩)⟩)⟩) ⟨[undef, undef, undef, undef, undef, undef, undef, undef, undef, undef, .slice none 0 0, .bool false], by simp only [putAll, Act.put, List.setIfInBounds_toArray, List.set_cons_succ, List.set_cons_zero], rfl⟩ ?steps ?fin
  case steps =>
    simp only [relSteps]
    refine ⟨?_, ?_, ?_, ?_, ?_, ?_, ?_, ?_, ?_, ?_, ?_, ?_, trivial⟩
    · rintro vs W K hc hvl hw hK
      obtain ⟨x0, x1, x2, x3, x4, x5, x6, x7, x8, x9, x10, x11, rfl⟩ := len12 hvl
      have HK := Lib.hid hK
      have HC := Lib.hid hc
      have HW := Lib.hid hw
      clear hK hc hw hvl
      simp only [putAll, Act.put, List.setIfInBounds_toArray, List.set_cons_succ, List.set_cons_zero]
      clear HW
      go_wp2_with fail
      have fin := HK.out (.agg #[.int .i64 0, .int .i64 0, .int .i64 0, .int .i64 0]) W (Below.refl _ _) rfl
      simp only [putAll, Act.put, List.setIfInBounds_toArray, List.set_cons_succ, List.set_cons_zero] at fin
      exact fin
    · rintro vs W K hc hvl hw hK
      obtain ⟨x0, x1, x2, x3, x4, x5, x6, x7, x8, x9, x10, x11, rfl⟩ := len12 hvl
      have HK := Lib.hid hK
      have HC := Lib.hid hc
      have HW := Lib.hid hw
      clear hK hc hw hvl
      simp only [putAll, Act.put, List.setIfInBounds_toArray, List.set_cons_succ, List.set_cons_zero]
      have rj1 := RJ.out.below HC.out RJ.out.lt
      have j0 : W.cell? ⟨w1.heap.size, 0, none⟩ = some (.int .i64 (n : Int)) := rj1.cell 0
      have j1 : W.cell? ⟨w1.heap.size, 1, none⟩ = some (.int .i64 p0) := rj1.cell 1
      have j2 : W.cell? ⟨w1.heap.size, 2, none⟩ = some (.int .i64 p1) := rj1.cell 2
      have j3 : W.cell? ⟨w1.heap.size, 3, none⟩ = some (.int .i64 p2) := rj1.cell 3
      have j4 : W.cell? ⟨w1.heap.size, 4, none⟩ = some (.int .i64 p3) := rj1.cell 4
      clear rj1
      clear HW
      go_wp2_with fail
      have fin := HK.out (.agg #[.int .i64 (n : Int), .int .i64 p0, .int .i64 p1, .int .i64 p2, .int .i64 p3]) W (Below.refl _ _) rfl
      simp only [putAll, Act.put, List.setIfInBounds_toArray, List.set_cons_succ, List.set_cons_zero] at fin
      exact fin
    · rintro vs W K hc hvl hw hK
      obtain ⟨x0, x1, x2, x3, x4, x5, x6, x7, x8, x9, x10, x11, rfl⟩ := len12 hvl
      have HK := Lib.hid hK
      have HC := Lib.hid hc
      have HW := Lib.hid hw
      clear hK hc hw hvl
      have hd1 := HW.out ⟨1, .data⟩ (by simp) rfl
      obtain rfl : x1 = .agg #[.int .i64 (n : Int), .int .i64 p0, .int .i64 p1, .int .i64 p2, .int .i64 p3] := rel_get hd1 rfl
      simp only [putAll, Act.put, List.setIfInBounds_toArray, List.set_cons_succ, List.set_cons_zero]
      clear HW hd1
      go_wp2_with fail
      refine (steps_any (n : Int) p0 p1 p2 p3 false W).mono ?_
      rintro e W' ⟨rfl, hb1, hb2, hb3⟩
      have HB' := Lib.hid hb1
      have HB2 := Lib.hid hb2
      have HB3 := Lib.hid hb3
      clear hb1 hb2 hb3
      go_wp2_with fail
      have fin := HK.out (.func (.func 70) #[] #[.pointer (some ⟨W.heap.size + 1, 0, none⟩), .pointer (some ⟨W.heap.size, 0, none⟩)]) W' HB'.out ⟨_, _, rfl, HB3.out, HB2.out⟩
      simp only [putAll, Act.put, List.setIfInBounds_toArray, List.set_cons_succ, List.set_cons_zero] at fin
      exact fin
    · rintro vs W K hc hvl hw hK
      obtain ⟨x0, x1, x2, x3, x4, x5, x6, x7, x8, x9, x10, x11, rfl⟩ := len12 hvl
      have HK := Lib.hid hK
      have HC := Lib.hid hc
      have HW := Lib.hid hw
      clear hK hc hw hvl
      simp only [putAll, Act.put, List.setIfInBounds_toArray, List.set_cons_succ, List.set_cons_zero]
      have rj1 := RJ.out.below HC.out RJ.out.lt
      have j0 : W.cell? ⟨w1.heap.size, 0, none⟩ = some (.int .i64 (n : Int)) := rj1.cell 0
      have j1 : W.cell? ⟨w1.heap.size, 1, none⟩ = some (.int .i64 p0) := rj1.cell 1
      have j2 : W.cell? ⟨w1.heap.size, 2, none⟩ = some (.int .i64 p1) := rj1.cell 2
      have j3 : W.cell? ⟨w1.heap.size, 3, none⟩ = some (.int .i64 p2) := rj1.cell 3
      have j4 : W.cell? ⟨w1.heap.size, 4, none⟩ = some (.int .i64 p3) := rj1.cell 4
      clear rj1
      clear HW
      go_wp2_with fail
      have fin := HK.out (.agg #[.int .i64 (n : Int), .int .i64 p0, .int .i64 p1, .int .i64 p2, .int .i64 p3]) W (Below.refl _ _) rfl
      simp only [putAll, Act.put, List.setIfInBounds_toArray, List.set_cons_succ, List.set_cons_zero] at fin
      exact fin
    · rintro vs W K hc hvl hw hK
      obtain ⟨x0, x1, x2, x3, x4, x5, x6, x7, x8, x9, x10, x11, rfl⟩ := len12 hvl
      have HK := Lib.hid hK
      have HC := Lib.hid hc
      have HW := Lib.hid hw
      clear hK hc hw hvl
      have hd3 := HW.out ⟨3, .data⟩ (by simp) rfl
      obtain rfl : x3 = .agg #[.int .i64 (n : Int), .int .i64 p0, .int .i64 p1, .int .i64 p2, .int .i64 p3] := rel_get hd3 rfl
      simp only [putAll, Act.put, List.setIfInBounds_toArray, List.set_cons_succ, List.set_cons_zero]
      clear HW hd3
      go_wp2_with fail
      have fin := HK.out (.func (.func 54) #[.agg #[.int .i64 (n : Int), .int .i64 p0, .int .i64 p1, .int .i64 p2, .int .i64 p3]] #[]) W (Below.refl _ _) rfl
      simp only [putAll, Act.put, List.setIfInBounds_toArray, List.set_cons_succ, List.set_cons_zero] at fin
      exact fin
    · rintro vs W K hc hvl hw hK
      obtain ⟨x0, x1, x2, x3, x4, x5, x6, x7, x8, x9, x10, x11, rfl⟩ := len12 hvl
      have HK := Lib.hid hK
      have HC := Lib.hid hc
      have HW := Lib.hid hw
      clear hK hc hw hvl
      simp only [putAll, Act.put, List.setIfInBounds_toArray, List.set_cons_succ, List.set_cons_zero]
      clear HW
      go_wp2_with fail
      have fin := HK.out (.func (.func 66) #[] #[.pointer (some ⟨w1.heap.size, 0, none⟩), .pointer (some ⟨w.heap.size, 0, none⟩)]) W (Below.refl _ _) rfl
      simp only [putAll, Act.put, List.setIfInBounds_toArray, List.set_cons_succ, List.set_cons_zero] at fin
      exact fin
    · rintro vs W K hc hvl hw hK
      obtain ⟨x0, x1, x2, x3, x4, x5, x6, x7, x8, x9, x10, x11, rfl⟩ := len12 hvl
      have HK := Lib.hid hK
      have HC := Lib.hid hc
      have HW := Lib.hid hw
      clear hK hc hw hvl
      have hd0 := HW.out ⟨0, .data⟩ (by simp) rfl
      obtain rfl : x0 = .agg #[.int .i64 0, .int .i64 0, .int .i64 0, .int .i64 0] := rel_get hd0 rfl
      have hd2 := HW.out ⟨2, .data⟩ (by simp) rfl
      have hr := rel_get (x := x2) hd2 rfl
      obtain ⟨bl, bj, rfl, hrl, hrj⟩ := hr
      have HRL := Lib.hid hrl
      have HRJ := Lib.hid hrj
      clear hrl hrj
      have hd4 := HW.out ⟨4, .data⟩ (by simp) rfl
      obtain rfl : x4 = .func (.func 54) #[.agg #[.int .i64 (n : Int), .int .i64 p0, .int .i64 p1, .int .i64 p2, .int .i64 p3]] #[] := rel_get hd4 rfl
      have hd5 := HW.out ⟨5, .data⟩ (by simp) rfl
      obtain rfl : x5 = .func (.func 66) #[] #[.pointer (some ⟨w1.heap.size, 0, none⟩), .pointer (some ⟨w.heap.size, 0, none⟩)] := rel_get hd5 rfl
      simp only [putAll, Act.put, List.setIfInBounds_toArray, List.set_cons_succ, List.set_cons_zero]
      clear HW hd0 hd2 hd4 hd5
      go_wp2_with fail
      refine (search_any 0 0 0 0 (glA n a) 66 #[.pointer (some ⟨w1.heap.size, 0, none⟩), .pointer (some ⟨w.heap.size, 0, none⟩)] n p0 p1 p2 p3 (-1) (n + 1) hn (.inl rfl) HM.out bl bj W HRL.out HRJ.out (enters_of Try.func66 (by kernel_rfl) rfl) (fun W2 x0 x1 x2 x3 hb2 _ => HAG.out W2 x0 x1 x2 x3 (Below.andThen HC.out hb2 (Nat.le_refl _))) HFIT.out 28562 (by omega) res HRES.out).mono ?_
      rintro e W' ⟨rfl, hs1, hb1⟩
      have HB' := Lib.hid hb1
      have HS1 := Lib.hid hs1
      clear hb1 hs1
      go_wp2_with fail
      have fin := HK.out (foundV (W.heap.size + 1 + 1 + 1 + 1) res) W' HB'.out ⟨_, rfl, HS1.out⟩
      simp only [putAll, Act.put, List.setIfInBounds_toArray, List.set_cons_succ, List.set_cons_zero] at fin
      exact fin
    · rintro vs W K hc hvl hw hK
      obtain ⟨x0, x1, x2, x3, x4, x5, x6, x7, x8, x9, x10, x11, rfl⟩ := len12 hvl
      have HK := Lib.hid hK
      have HC := Lib.hid hc
      have HW := Lib.hid hw
      clear hK hc hw hvl
      have hd6 := HW.out ⟨6, .data⟩ (by simp) rfl
      have hr := rel_get (x := x6) hd6 rfl
      obtain ⟨bf, rfl, hsn⟩ := hr
      have HSN := Lib.hid hsn
      clear hsn
      simp only [putAll, Act.put, List.setIfInBounds_toArray, List.set_cons_succ, List.set_cons_zero]
      clear HW hd6
      go_wp2_with fail
      refine (HFD.out bf W HSN.out).mono ?_
      rintro e W' ⟨x, rfl, hw1, hb1⟩
      have HB' := Lib.hid hb1
      have HW1 := Lib.hid (WayV.mono hw1 (Nat.le_trans HN0.out HC.out.size))
      clear hb1 hw1
      go_wp2_with fail
      have fin := HK.out (x) W' HB'.out HW1.out
      simp only [putAll, Act.put, List.setIfInBounds_toArray, List.set_cons_succ, List.set_cons_zero] at fin
      exact fin
    · rintro vs W K hc hvl hw hK
      obtain ⟨x0, x1, x2, x3, x4, x5, x6, x7, x8, x9, x10, x11, rfl⟩ := len12 hvl
      have HK := Lib.hid hK
      have HC := Lib.hid hc
      have HW := Lib.hid hw
      clear hK hc hw hvl
      have hd7 := HW.out ⟨7, .data⟩ (by simp) rfl
      have hr := rel_get (x := x7) hd7 rfl
      obtain ⟨s, rfl, ho⟩ := hr
      have HO := Lib.hid ho
      clear ho
      simp only [putAll, Act.put, List.setIfInBounds_toArray, List.set_cons_succ, List.set_cons_zero]
      clear HW hd7
      go_wp2_with fail
      have fin := HK.out (s) W (Below.refl _ _) HO.out
      simp only [putAll, Act.put, List.setIfInBounds_toArray, List.set_cons_succ, List.set_cons_zero] at fin
      exact fin
    · rintro vs W K hc hvl hw hK
      obtain ⟨x0, x1, x2, x3, x4, x5, x6, x7, x8, x9, x10, x11, rfl⟩ := len12 hvl
      have HK := Lib.hid hK
      have HC := Lib.hid hc
      have HW := Lib.hid hw
      clear hK hc hw hvl
      have hd7 := HW.out ⟨7, .data⟩ (by simp) rfl
      have hr := rel_get (x := x7) hd7 rfl
      obtain ⟨s, rfl, ho⟩ := hr
      have HO := Lib.hid ho
      clear ho
      simp only [putAll, Act.put, List.setIfInBounds_toArray, List.set_cons_succ, List.set_cons_zero]
      clear HW hd7
      go_wp2_with fail
      have fin := HK.out (.bool ok) W (Below.refl _ _) rfl
      simp only [putAll, Act.put, List.setIfInBounds_toArray, List.set_cons_succ, List.set_cons_zero] at fin
      exact fin
    · rintro vs W K hc hvl hw hK
      obtain ⟨x0, x1, x2, x3, x4, x5, x6, x7, x8, x9, x10, x11, rfl⟩ := len12 hvl
      have HK := Lib.hid hK
      have HC := Lib.hid hc
      have HW := Lib.hid hw
      clear hK hc hw hvl
      have hd8 := HW.out ⟨8, .data⟩ (by simp) rfl
      have hr := rel_get (x := x8) hd8 rfl
      have HO := Lib.hid (show OwnP W w.heap.size x8 way from hr)
      simp only [putAll, Act.put, List.setIfInBounds_toArray, List.set_cons_succ, List.set_cons_zero]
      clear HW hd8
      go_wp2_with fail
      have fin := HK.out (x8) W (Below.refl _ _) HO.out
      simp only [putAll, Act.put, List.setIfInBounds_toArray, List.set_cons_succ, List.set_cons_zero] at fin
      exact fin
    · rintro vs W K hc hvl hw hK
      obtain ⟨x0, x1, x2, x3, x4, x5, x6, x7, x8, x9, x10, x11, rfl⟩ := len12 hvl
      have HK := Lib.hid hK
      have HC := Lib.hid hc
      have HW := Lib.hid hw
      clear hK hc hw hvl
      have hd9 := HW.out ⟨9, .data⟩ (by simp) rfl
      obtain rfl : x9 = .bool ok := rel_get hd9 rfl
      simp only [putAll, Act.put, List.setIfInBounds_toArray, List.set_cons_succ, List.set_cons_zero]
      clear HW hd9
      go_wp2_with fail
      have fin := HK.out (.bool ok) W (Below.refl _ _) rfl
      simp only [putAll, Act.put, List.setIfInBounds_toArray, List.set_cons_succ, List.set_cons_zero] at fin
      exact fin
  case fin =>
    intro vs W hc hvl hv
    obtain ⟨x0, x1, x2, x3, x4, x5, x6, x7, x8, x9, x10, x11, rfl⟩ := len12 hvl
    have hd10 := hv 10 (by omega)
    have hr := rel_get (x := x10) hd10 rfl
    have HO := Lib.hid (show OwnP W w.heap.size x10 way from hr)
    clear hd10
    have hd11 := hv 11 (by omega)
    obtain rfl : x11 = .bool ok := rel_get hd11 rfl
    clear hd11
    simp only [putAll, Act.put, List.setIfInBounds_toArray, List.set_cons_succ, List.set_cons_zero]
    have T := Lib.hid (Below.andThen B2.out hc (Nat.le_refl _))
    clear hv hc hvl hr
    go_wp2_with fail
    go_ret2
    refine ⟨_, rfl, ⟨x10, rfl, HO.out⟩, T.out⟩
end Go.Proofs.Ytlamppplnojpbaa
namespace Go.Proofs.Ytlamppplnojpbaa
open Go.RowKit Go.Shelf
attribute [local go_sem] Oper.semAt_some
theorem len10 {vs : List Value} (h : vs.length = 10) : ∃ x0 x1 x2 x3 x4 x5 x6 x7 x8 x9, vs = [x0, x1, x2, x3, x4, x5, x6, x7, x8, x9] := by
  obtain ⟨x0, r0, rfl, h0⟩ := len_cons h
  obtain ⟨x1, r1, rfl, h1⟩ := len_cons h0
  obtain ⟨x2, r2, rfl, h2⟩ := len_cons h1
  obtain ⟨x3, r3, rfl, h3⟩ := len_cons h2
  obtain ⟨x4, r4, rfl, h4⟩ := len_cons h3
  obtain ⟨x5, r5, rfl, h5⟩ := len_cons h4
  obtain ⟨x6, r6, rfl, h6⟩ := len_cons h5
  obtain ⟨x7, r7, rfl, h7⟩ := len_cons h6
  obtain ⟨x8, r8, rfl, h8⟩ := len_cons h7
  obtain ⟨x9, r9, rfl, h9⟩ := len_cons h8
  obtain rfl := List.eq_nil_of_length_eq_zero h9
  exact ⟨_, _, _, _, _, _, _, _, _, _, rfl⟩
theorem field89F (b : Nat) (res : Sn × Option (List Int)) (W : World) : (Instr.field 89 (foundV b res) 0).run Try.prog W = .ok (.map (some b)) W := by kernel_rfl
def glN : List Int → Bool := fun _ => false
theorem stepsV_any (n p0 p1 p2 p3 : Int) (cl : Bool) (w : World) : Calls Try.prog 53 #[.agg #[.int .i64 n, .int .i64 p0, .int .i64 p1, .int .i64 p2, .int .i64 p3], .bool cl] w fun e w' => ∃ x, e = .returned x ∧ StepsV n p0 p1 p2 p3 (if cl = true then 0 else -1) x w' ∧ Below w.heap.size w w' :=
  (steps_any n p0 p1 p2 p3 cl w).mono fun _ _ ⟨h1, h2, h3, h4⟩ => ⟨_, h1, ⟨_, _, rfl, h4, h3⟩, h2⟩
/-- the least end of the steps, and how many there are -/
def lsF (cl : Bool) : Int := if cl = true then 0 else -1
def mF (cl : Bool) (n : Nat) : Nat := if cl = true then n else n + 1
theorem lsF_ok (cl : Bool) : lsF cl = -1 ∨ lsF cl = 0 := by cases cl <;> simp [lsF]
theorem mF_ok (cl : Bool) (n : Nat) : (n : Int) = lsF cl + (mF cl n : Int) := by cases cl <;> simp [lsF, mF] <;> omega
def ssF (cl : Bool) (n : Nat) : List (Int × Int) := stepsL (lsF cl) (mF cl n)
set_option maxRecDepth 100000 in
set_option maxHeartbeats 4000000 in
theorem reached_any (zs fs : List Int) (v u : Value) (cl : Bool) (w : World) (hv : SlI w v zs) (hu : SlI w u fs) (hfl : fs.length ≤ 4) (hj : jugsB zs = true) (hfit : FitP (padF zs) (padF fs)) (res : Sn × Option (List Int)) (hres : srch (padF zs) glN (ssF cl zs.length) 28562 (padF fs) = some res) :
    Calls Try.prog 49 #[v, u, .bool cl] w fun e w' => ∃ x, e = .returned x ∧ MapV res.1 x w' ∧ Below w.heap.size w w' := by
  obtain ⟨h1, h4, p0, p1, p2, p3, hp, hjv, b0, b1, b2, b3⟩ := jugs_open hj
  obtain ⟨f0, f1, f2, f3, hf⟩ := agg4 (padF fs) (padF_len fs)
  rw [hp, hf] at hres hfit
  obtain ⟨n, hn0⟩ : ∃ n, zs.length = n := ⟨_, rfl⟩
  rw [hn0] at hres hjv
  have hn : n ≤ 4 := by omega
  unfold ssF at hres
  have hst := stepsV_any (n : Int) p0 p1 p2 p3 cl
  rw [show (if cl = true then (0 : Int) else -1) = lsF cl from rfl] at hst
  have HST := Lib.hid hst
  have HLS := Lib.hid (lsF_ok cl)
  have HM := Lib.hid (mF_ok cl n)
  generalize lsF cl = ls at *
  generalize mF cl n = m at *
  have HFIT := Lib.hid hfit
  have HRES := Lib.hid hres
  have hc := jugsOf_any zs v w hv h4
  rw [hjv] at hc
  have HCJ := Lib.hid hc
  have HF0 := Lib.hid (fun (W : World) (hb : Below w.heap.size w W) => fillingOf_any fs u W (hu.grow hb) hfl)
  clear hp hj hjv b0 b1 b2 b3 h1 h4 hn0 hst hfit hres hc hv
  go_enter Try.func49, Try.ntmps49
  go_wp2_with fail
  refine HCJ.out.mono ?_
  rintro e w1 ⟨rfl, hb⟩
  have bj := (Below.refl w1.heap.size w1).alloc (Nat.le_refl _) (.cells #[.int .i64 (n : Int), .int .i64 p0, .int .i64 p1, .int .i64 p2, .int .i64 p3] 80)
  have rj := Row.new w1 80 [.int .i64 (n : Int), .int .i64 p0, .int .i64 p1, .int .i64 p2, .int .i64 p3]
  have RJ := Lib.hid rj
  have hB2 := Below.andThen hb bj (Nat.le_refl _)
  have B2 := Lib.hid hB2
  have hf2 : ∀ W, Below (w1.alloc (.cells #[.int .i64 (n : Int), .int .i64 p0, .int .i64 p1, .int .i64 p2, .int .i64 p3] 80)).heap.size (w1.alloc (.cells #[.int .i64 (n : Int), .int .i64 p0, .int .i64 p1, .int .i64 p2, .int .i64 p3] 80)) W → Calls Try.prog 52 #[u] W fun e w' => e = .returned (.agg #[.int .i64 f0, .int .i64 f1, .int .i64 f2, .int .i64 f3]) ∧ Below W.heap.size W w' := fun W h => by
    have h := HF0.out W (Below.andThen hB2 h (Nat.le_refl _))
    rw [hf] at h
    exact h
  have HF := Lib.hid hf2
  clear hb bj rj HCJ hf2 hB2 HF0 hf hu hfl
  go_wp2_with fail
  refine wp_region_rel (by kernel_rfl) (by kernel_rfl) [10, 11, 12, 13, 14, 15, 16, 17, 18, 6] [LitR (u), LitR (.agg #[.int .i64 f0, .int .i64 f1, .int .i64 f2, .int .i64 f3]), LitR (.agg #[.int .i64 (n : Int), .int .i64 p0, .int .i64 p1, .int .i64 p2, .int .i64 p3]), LitR (.bool cl), (StepsV (n : Int) p0 p1 p2 p3 ls), LitR (.agg #[.int .i64 (n : Int), .int .i64 p0, .int .i64 p1, .int .i64 p2, .int .i64 p3]), LitR (.func (.func 54) #[.agg #[.int .i64 (n : Int), .int .i64 p0, .int .i64 p1, .int .i64 p2, .int .i64 p3]] #[]), (FoundV res), (MapV res.1), (MapV res.1)] 10 rfl (List.forall_mem_cons.2 ⟨LitR.stab _, (List.forall_mem_cons.2 ⟨LitR.stab _, (List.forall_mem_cons.2 ⟨LitR.stab _, (List.forall_mem_cons.2 ⟨LitR.stab _, (List.forall_mem_cons.2 ⟨StepsV.stab _ _ _ _ _ _, (List.forall_mem_cons.2 ⟨LitR.stab _, (List.forall_mem_cons.2 ⟨LitR.stab _, (List.forall_mem_cons.2 ⟨FoundV.stab _, (List.forall_mem_cons.2 ⟨MapV.stab _, (List.forall_mem_cons.2 ⟨MapV.stab _, (fun _ h => nomatch h)⟩)⟩)⟩)⟩)⟩)⟩)⟩)⟩)⟩)⟩) ⟨[undef, undef, undef, undef, undef, undef, undef, undef, undef, .map none], by simp only [putAll, Act.put, List.setIfInBounds_toArray, List.set_cons_succ, List.set_cons_zero], rfl⟩ ?steps ?fin
  case steps =>
    simp only [relSteps]
    refine ⟨?_, ?_, ?_, ?_, ?_, ?_, ?_, ?_, ?_, ?_, trivial⟩
    · rintro vs W K hc hvl hw hK
      obtain ⟨x0, x1, x2, x3, x4, x5, x6, x7, x8, x9, rfl⟩ := len10 hvl
      have HK := Lib.hid hK
      have HC := Lib.hid hc
      have HW := Lib.hid hw
      clear hK hc hw hvl
      simp only [putAll, Act.put, List.setIfInBounds_toArray, List.set_cons_succ, List.set_cons_zero]
      clear HW
      go_wp2_with fail
      have fin := HK.out (u) W (Below.refl _ _) rfl
      simp only [putAll, Act.put, List.setIfInBounds_toArray, List.set_cons_succ, List.set_cons_zero] at fin
      exact fin
    · rintro vs W K hc hvl hw hK
      obtain ⟨x0, x1, x2, x3, x4, x5, x6, x7, x8, x9, rfl⟩ := len10 hvl
      have HK := Lib.hid hK
      have HC := Lib.hid hc
      have HW := Lib.hid hw
      clear hK hc hw hvl
      have hd0 := HW.out ⟨0, .data⟩ (by simp) rfl
      obtain rfl : x0 = u := rel_get hd0 rfl
      simp only [putAll, Act.put, List.setIfInBounds_toArray, List.set_cons_succ, List.set_cons_zero]
      clear HW hd0
      go_wp2_with fail
      refine (HF.out W HC.out).mono ?_
      rintro e W' ⟨rfl, hb'⟩
      have HB' := Lib.hid hb'
      clear hb'
      go_wp2_with fail
      have fin := HK.out (.agg #[.int .i64 f0, .int .i64 f1, .int .i64 f2, .int .i64 f3]) W' HB'.out rfl
      simp only [putAll, Act.put, List.setIfInBounds_toArray, List.set_cons_succ, List.set_cons_zero] at fin
      exact fin
    · rintro vs W K hc hvl hw hK
      obtain ⟨x0, x1, x2, x3, x4, x5, x6, x7, x8, x9, rfl⟩ := len10 hvl
      have HK := Lib.hid hK
      have HC := Lib.hid hc
      have HW := Lib.hid hw
      clear hK hc hw hvl
      simp only [putAll, Act.put, List.setIfInBounds_toArray, List.set_cons_succ, List.set_cons_zero]
      have rj1 := RJ.out.below HC.out RJ.out.lt
      have j0 : W.cell? ⟨w1.heap.size, 0, none⟩ = some (.int .i64 (n : Int)) := rj1.cell 0
      have j1 : W.cell? ⟨w1.heap.size, 1, none⟩ = some (.int .i64 p0) := rj1.cell 1
      have j2 : W.cell? ⟨w1.heap.size, 2, none⟩ = some (.int .i64 p1) := rj1.cell 2
      have j3 : W.cell? ⟨w1.heap.size, 3, none⟩ = some (.int .i64 p2) := rj1.cell 3
      have j4 : W.cell? ⟨w1.heap.size, 4, none⟩ = some (.int .i64 p3) := rj1.cell 4
      clear rj1
      clear HW
      go_wp2_with fail
      have fin := HK.out (.agg #[.int .i64 (n : Int), .int .i64 p0, .int .i64 p1, .int .i64 p2, .int .i64 p3]) W (Below.refl _ _) rfl
      simp only [putAll, Act.put, List.setIfInBounds_toArray, List.set_cons_succ, List.set_cons_zero] at fin
      exact fin
    · rintro vs W K hc hvl hw hK
      obtain ⟨x0, x1, x2, x3, x4, x5, x6, x7, x8, x9, rfl⟩ := len10 hvl
      have HK := Lib.hid hK
      have HC := Lib.hid hc
      have HW := Lib.hid hw
      clear hK hc hw hvl
      simp only [putAll, Act.put, List.setIfInBounds_toArray, List.set_cons_succ, List.set_cons_zero]
      clear HW
      go_wp2_with fail
      have fin := HK.out (.bool cl) W (Below.refl _ _) rfl
      simp only [putAll, Act.put, List.setIfInBounds_toArray, List.set_cons_succ, List.set_cons_zero] at fin
      exact fin
    · rintro vs W K hc hvl hw hK
      obtain ⟨x0, x1, x2, x3, x4, x5, x6, x7, x8, x9, rfl⟩ := len10 hvl
      have HK := Lib.hid hK
      have HC := Lib.hid hc
      have HW := Lib.hid hw
      clear hK hc hw hvl
      have hd2 := HW.out ⟨2, .data⟩ (by simp) rfl
      obtain rfl : x2 = .agg #[.int .i64 (n : Int), .int .i64 p0, .int .i64 p1, .int .i64 p2, .int .i64 p3] := rel_get hd2 rfl
      have hd3 := HW.out ⟨3, .data⟩ (by simp) rfl
      obtain rfl : x3 = .bool cl := rel_get hd3 rfl
      simp only [putAll, Act.put, List.setIfInBounds_toArray, List.set_cons_succ, List.set_cons_zero]
      clear HW hd2 hd3
      go_wp2_with fail
      refine (HST.out W).mono ?_
      rintro e W' ⟨x, rfl, hst1, hb1⟩
      have HB' := Lib.hid hb1
      have HB2 := Lib.hid hst1
      clear hb1 hst1
      go_wp2_with fail
      have fin := HK.out (x) W' HB'.out HB2.out
      simp only [putAll, Act.put, List.setIfInBounds_toArray, List.set_cons_succ, List.set_cons_zero] at fin
      exact fin
    · rintro vs W K hc hvl hw hK
      obtain ⟨x0, x1, x2, x3, x4, x5, x6, x7, x8, x9, rfl⟩ := len10 hvl
      have HK := Lib.hid hK
      have HC := Lib.hid hc
      have HW := Lib.hid hw
      clear hK hc hw hvl
      simp only [putAll, Act.put, List.setIfInBounds_toArray, List.set_cons_succ, List.set_cons_zero]
      have rj1 := RJ.out.below HC.out RJ.out.lt
      have j0 : W.cell? ⟨w1.heap.size, 0, none⟩ = some (.int .i64 (n : Int)) := rj1.cell 0
      have j1 : W.cell? ⟨w1.heap.size, 1, none⟩ = some (.int .i64 p0) := rj1.cell 1
      have j2 : W.cell? ⟨w1.heap.size, 2, none⟩ = some (.int .i64 p1) := rj1.cell 2
      have j3 : W.cell? ⟨w1.heap.size, 3, none⟩ = some (.int .i64 p2) := rj1.cell 3
      have j4 : W.cell? ⟨w1.heap.size, 4, none⟩ = some (.int .i64 p3) := rj1.cell 4
      clear rj1
      clear HW
      go_wp2_with fail
      have fin := HK.out (.agg #[.int .i64 (n : Int), .int .i64 p0, .int .i64 p1, .int .i64 p2, .int .i64 p3]) W (Below.refl _ _) rfl
      simp only [putAll, Act.put, List.setIfInBounds_toArray, List.set_cons_succ, List.set_cons_zero] at fin
      exact fin
    · rintro vs W K hc hvl hw hK
      obtain ⟨x0, x1, x2, x3, x4, x5, x6, x7, x8, x9, rfl⟩ := len10 hvl
      have HK := Lib.hid hK
      have HC := Lib.hid hc
      have HW := Lib.hid hw
      clear hK hc hw hvl
      have hd5 := HW.out ⟨5, .data⟩ (by simp) rfl
      obtain rfl : x5 = .agg #[.int .i64 (n : Int), .int .i64 p0, .int .i64 p1, .int .i64 p2, .int .i64 p3] := rel_get hd5 rfl
      simp only [putAll, Act.put, List.setIfInBounds_toArray, List.set_cons_succ, List.set_cons_zero]
      clear HW hd5
      go_wp2_with fail
      have fin := HK.out (.func (.func 54) #[.agg #[.int .i64 (n : Int), .int .i64 p0, .int .i64 p1, .int .i64 p2, .int .i64 p3]] #[]) W (Below.refl _ _) rfl
      simp only [putAll, Act.put, List.setIfInBounds_toArray, List.set_cons_succ, List.set_cons_zero] at fin
      exact fin
    · rintro vs W K hc hvl hw hK
      obtain ⟨x0, x1, x2, x3, x4, x5, x6, x7, x8, x9, rfl⟩ := len10 hvl
      have HK := Lib.hid hK
      have HC := Lib.hid hc
      have HW := Lib.hid hw
      clear hK hc hw hvl
      have hd1 := HW.out ⟨1, .data⟩ (by simp) rfl
      obtain rfl : x1 = .agg #[.int .i64 f0, .int .i64 f1, .int .i64 f2, .int .i64 f3] := rel_get hd1 rfl
      have hd4 := HW.out ⟨4, .data⟩ (by simp) rfl
      have hr := rel_get (x := x4) hd4 rfl
      obtain ⟨bl, bj, rfl, hrl, hrj⟩ := hr
      have HRL := Lib.hid hrl
      have HRJ := Lib.hid hrj
      clear hrl hrj
      have hd6 := HW.out ⟨6, .data⟩ (by simp) rfl
      obtain rfl : x6 = .func (.func 54) #[.agg #[.int .i64 (n : Int), .int .i64 p0, .int .i64 p1, .int .i64 p2, .int .i64 p3]] #[] := rel_get hd6 rfl
      simp only [putAll, Act.put, List.setIfInBounds_toArray, List.set_cons_succ, List.set_cons_zero]
      clear HW hd1 hd4 hd6
      go_wp2_with fail
      refine (search_any f0 f1 f2 f3 glN 68 #[] n p0 p1 p2 p3 ls m hn HLS.out HM.out bl bj W HRL.out HRJ.out (enters_of Try.func68 (by kernel_rfl) rfl) (fun W2 x0 x1 x2 x3 _ _ => noGoal_any x0 x1 x2 x3 W2) HFIT.out 28562 (by omega) res HRES.out).mono ?_
      rintro e W' ⟨rfl, hs1, hb1⟩
      have HB' := Lib.hid hb1
      have HS1 := Lib.hid hs1
      clear hb1 hs1
      go_wp2_with fail
      have fin := HK.out (foundV (W.heap.size + 1 + 1 + 1 + 1) res) W' HB'.out ⟨_, rfl, HS1.out⟩
      simp only [putAll, Act.put, List.setIfInBounds_toArray, List.set_cons_succ, List.set_cons_zero] at fin
      exact fin
    · rintro vs W K hc hvl hw hK
      obtain ⟨x0, x1, x2, x3, x4, x5, x6, x7, x8, x9, rfl⟩ := len10 hvl
      have HK := Lib.hid hK
      have HC := Lib.hid hc
      have HW := Lib.hid hw
      clear hK hc hw hvl
      have hd7 := HW.out ⟨7, .data⟩ (by simp) rfl
      have hr := rel_get (x := x7) hd7 rfl
      obtain ⟨bf, rfl, hsn⟩ := hr
      have HSN := Lib.hid hsn
      clear hsn
      simp only [putAll, Act.put, List.setIfInBounds_toArray, List.set_cons_succ, List.set_cons_zero]
      clear HW hd7
      go_wp2_with fail
      rw [field89F, Result.andThen_ok]
      go_wp2_with fail
      have fin := HK.out (.map (some bf)) W (Below.refl _ _) ⟨bf, rfl, HSN.out⟩
      simp only [putAll, Act.put, List.setIfInBounds_toArray, List.set_cons_succ, List.set_cons_zero] at fin
      exact fin
    · rintro vs W K hc hvl hw hK
      obtain ⟨x0, x1, x2, x3, x4, x5, x6, x7, x8, x9, rfl⟩ := len10 hvl
      have HK := Lib.hid hK
      have HC := Lib.hid hc
      have HW := Lib.hid hw
      clear hK hc hw hvl
      have hd8 := HW.out ⟨8, .data⟩ (by simp) rfl
      have hr := rel_get (x := x8) hd8 rfl
      obtain ⟨bf, rfl, hsn⟩ := hr
      have HSN := Lib.hid hsn
      clear hsn
      simp only [putAll, Act.put, List.setIfInBounds_toArray, List.set_cons_succ, List.set_cons_zero]
      clear HW hd8
      go_wp2_with fail
      have fin := HK.out (.map (some bf)) W (Below.refl _ _) ⟨bf, rfl, HSN.out⟩
      simp only [putAll, Act.put, List.setIfInBounds_toArray, List.set_cons_succ, List.set_cons_zero] at fin
      exact fin
  case fin =>
    intro vs W hc hvl hv
    obtain ⟨x0, x1, x2, x3, x4, x5, x6, x7, x8, x9, rfl⟩ := len10 hvl
    have hd9 := hv 9 (by omega)
    have hr := rel_get (x := x9) hd9 rfl
    obtain ⟨bf, rfl, hsn⟩ := hr
    have HSN := Lib.hid hsn
    clear hsn
    clear hd9
    simp only [putAll, Act.put, List.setIfInBounds_toArray, List.set_cons_succ, List.set_cons_zero]
    have T := Lib.hid (Below.andThen B2.out hc (Nat.le_refl _))
    clear hv hc hvl
    go_wp2_with fail
    go_ret
    exact ⟨_, rfl, ⟨bf, rfl, HSN.out⟩, T.out⟩
end Go.Proofs.Ytlamppplnojpbaa
namespace Go.Proofs.Ytlamppplnojpbaa
open Go.RowKit Go.Shelf
attribute [local go_sem] Oper.semAt_some
def errM (zs : List Int) (a : Int) : Int := if jugsB zs = true then (if 0 ≤ a ∧ a ≤ 12 then 0 else 1) else 20
set_option maxRecDepth 100000 in
set_option maxHeartbeats 400000 in
theorem checkAmount_any (zs : List Int) (v : Value) (a : Int) (w : World) (hv : SlI w v zs) (hl : zs.length ≤ 1000000) :
    Calls Try.prog 47 #[v, .int .i64 a] w fun e w' => e = .returned (.int .i64 (errM zs a)) ∧ Below w.heap.size w w' := by
  have HC := Lib.hid (check_any zs v w hv hl)
  clear hv hl
  by_cases hj : jugsB zs = true
  · have ej : errJ zs = 0 := by unfold errJ; rw [if_pos hj]
    rw [ej] at HC
    by_cases h0 : a < 0
    · have fin : errM zs a = 1 := by unfold errM; rw [if_pos hj, if_neg (by omega)]
      rw [fin]
      have hd : decide (a < 0) = true := decide_eq_true h0
      clear fin hj ej
      go_enter Try.func47, Try.ntmps47
      go_wp2_with fail
      refine HC.out.mono ?_
      rintro e w1 ⟨rfl, hb⟩
      have HB := Lib.hid hb
      clear hb HC
      go_wp2_with fail
      go_ret
      exact ⟨rfl, HB.out⟩
    · by_cases h12 : 12 < a
      · have fin : errM zs a = 1 := by unfold errM; rw [if_pos hj, if_neg (by omega)]
        rw [fin]
        have hd : decide (a < 0) = false := decide_eq_false h0
        have hd2 : decide (a > 12) = true := decide_eq_true h12
        clear fin hj ej
        go_enter Try.func47, Try.ntmps47
        go_wp2_with fail
        refine HC.out.mono ?_
        rintro e w1 ⟨rfl, hb⟩
        have HB := Lib.hid hb
        clear hb HC
        go_wp2_with fail
        go_ret
        exact ⟨rfl, HB.out⟩
      · have fin : errM zs a = 0 := by unfold errM; rw [if_pos hj, if_pos (by omega)]
        rw [fin]
        have hd : decide (a < 0) = false := decide_eq_false h0
        have hd2 : decide (a > 12) = false := decide_eq_false h12
        clear fin hj ej
        go_enter Try.func47, Try.ntmps47
        go_wp2_with fail
        refine HC.out.mono ?_
        rintro e w1 ⟨rfl, hb⟩
        have HB := Lib.hid hb
        clear hb HC
        go_wp2_with fail
        go_ret
        exact ⟨rfl, HB.out⟩
  · have ej : errJ zs = 20 := by unfold errJ; rw [if_neg hj]
    have fin : errM zs a = 20 := by unfold errM; rw [if_neg hj]
    rw [ej] at HC
    rw [fin]
    clear fin hj ej
    go_enter Try.func47, Try.ntmps47
    go_wp2_with fail
    refine HC.out.mono ?_
    rintro e w1 ⟨rfl, hb⟩
    have HB := Lib.hid hb
    clear hb HC
    go_wp2_with fail
    go_ret
    exact ⟨rfl, HB.out⟩
set_option maxRecDepth 100000 in
set_option maxHeartbeats 400000 in
theorem Measure_err (zs : List Int) (v : Value) (a : Int) (w : World) (hv : SlI w v zs) (hl : zs.length ≤ 1000000) (k : Int) (he : errM zs a = k) (hk : k ≠ 0) :
    Calls Try.prog 19 #[v, .int .i64 a] w fun e w' => e = .returned (.tuple #[.slice none 0 0, .bool false, .int .i64 k]) ∧ Below w.heap.size w w' := by
  have HC := Lib.hid (checkAmount_any zs v a w hv hl)
  rw [he] at HC
  have hd : (k != 0) = true := by simp; exact hk
  clear hv hl he
  go_enter Try.func19, Try.ntmps19
  go_wp2_with fail
  refine HC.out.mono ?_
  rintro e w1 ⟨rfl, hb⟩
  have HB := Lib.hid hb
  clear hb HC
  go_wp2_with fail
  refine bodyPost_ret (v := .tuple #[.slice none 0 0, .bool false, .int .i64 k]) (by simp [results, Try.results19, go_sem]) rfl ?_
  exact ⟨rfl, HB.out⟩
set_option maxRecDepth 100000 in
set_option maxHeartbeats 400000 in
theorem Measure_ok (zs : List Int) (v : Value) (a : Int) (w : World) (hv : SlI w v zs) (hl : zs.length ≤ 1000000) (he : errM zs a = 0) (hj : jugsB zs = true) (res : Sn × Option (List Int)) (hres : srch (padF zs) (glA zs.length a) (stepsL (-1) (zs.length + 1)) 28562 [0, 0, 0, 0] = some res) :
    Calls Try.prog 19 #[v, .int .i64 a] w fun e w' => ∃ s, e = .returned (.tuple #[s, .bool res.2.isSome, .int .i64 0]) ∧ OwnP w' w.heap.size s (wayF res) ∧ Below w.heap.size w w' := by
  have HC := Lib.hid (checkAmount_any zs v a w hv hl)
  rw [he] at HC
  have HM := Lib.hid (fun (w1 : World) (hb : Below w.heap.size w w1) => measure_any zs v a w1 (hv.grow hb) hj res hres)
  generalize res.2.isSome = ok at *
  generalize wayF res = way at *
  clear hv hl he hj hres
  go_enter Try.func19, Try.ntmps19
  go_wp2_with fail
  refine HC.out.mono ?_
  rintro e w1 ⟨rfl, hb⟩
  have HB := Lib.hid hb
  clear hb HC
  go_wp2_with fail
  refine (HM.out w1 HB.out).mono ?_
  rintro e w2 ⟨x, rfl, ⟨s, rfl, ho⟩, hb2⟩
  have HO := Lib.hid ho
  have HB2 := Lib.hid hb2
  clear ho hb2 HM
  go_wp2_with fail
  refine bodyPost_ret (v := .tuple #[s, .bool ok, .int .i64 0]) (by simp [results, Try.results19, go_sem]) rfl ?_
  exact ⟨s, rfl, owns_mono HO.out HB.out.size, Below.andThen HB.out HB2.out (Nat.le_refl _)⟩
set_option maxRecDepth 100000 in
set_option maxHeartbeats 400000 in
theorem Fewest_err (zs : List Int) (v : Value) (a : Int) (w : World) (hv : SlI w v zs) (hl : zs.length ≤ 1000000) (k : Int) (he : errM zs a = k) (hk : k ≠ 0) :
    Calls Try.prog 21 #[v, .int .i64 a] w fun e w' => e = .returned (.tuple #[.int .i64 0, .bool false, .int .i64 k]) ∧ Below w.heap.size w w' := by
  have HC := Lib.hid (checkAmount_any zs v a w hv hl)
  rw [he] at HC
  have hd : (k != 0) = true := by simp; exact hk
  clear hv hl he
  go_enter Try.func21, Try.ntmps21
  go_wp2_with fail
  refine HC.out.mono ?_
  rintro e w1 ⟨rfl, hb⟩
  have HB := Lib.hid hb
  clear hb HC
  go_wp2_with fail
  refine bodyPost_ret (v := .tuple #[.int .i64 0, .bool false, .int .i64 k]) (by simp [results, Try.results21, go_sem]) rfl ?_
  exact ⟨rfl, HB.out⟩
set_option maxRecDepth 100000 in
set_option maxHeartbeats 400000 in
theorem Fewest_ok (zs : List Int) (v : Value) (a : Int) (w : World) (hv : SlI w v zs) (hl : zs.length ≤ 1000000) (he : errM zs a = 0) (hj : jugsB zs = true) (res : Sn × Option (List Int)) (hres : srch (padF zs) (glA zs.length a) (stepsL (-1) (zs.length + 1)) 28562 [0, 0, 0, 0] = some res) :
    Calls Try.prog 21 #[v, .int .i64 a] w fun e w' => e = .returned (.tuple #[.int .i64 ((wayF res).length : Int), .bool res.2.isSome, .int .i64 0]) ∧ Below w.heap.size w w' := by
  have HC := Lib.hid (checkAmount_any zs v a w hv hl)
  rw [he] at HC
  have HM := Lib.hid (fun (w1 : World) (hb : Below w.heap.size w w1) => measure_any zs v a w1 (hv.grow hb) hj res hres)
  generalize res.2.isSome = ok at *
  generalize wayF res = way at *
  clear hv hl he hj hres
  go_enter Try.func21, Try.ntmps21
  go_wp2_with fail
  refine HC.out.mono ?_
  rintro e w1 ⟨rfl, hb⟩
  have HB := Lib.hid hb
  clear hb HC
  go_wp2_with fail
  refine (HM.out w1 HB.out).mono ?_
  rintro e w2 ⟨x, rfl, ⟨s, rfl, ho⟩, hb2⟩
  obtain ⟨ad, c, rfl, _⟩ := OwnP.open ho
  have HB2 := Lib.hid hb2
  clear ho hb2 HM
  go_wp2_with fail
  refine bodyPost_ret (v := .tuple #[.int .i64 (way.length : Int), .bool ok, .int .i64 0]) (by simp [results, Try.results21, go_sem]) rfl ?_
  exact ⟨rfl, Below.andThen HB.out HB2.out (Nat.le_refl _)⟩
end Go.Proofs.Ytlamppplnojpbaa
namespace Go.Proofs.Ytlamppplnojpbaa
open Go.RowKit Go.Shelf
attribute [local go_sem] Oper.semAt_some
theorem sls_two {w : World} {u1 u2 : Value} {fs gs : List Int} (h1 : SlI w u1 fs) (h2 : SlI w u2 gs) : SlS (w.alloc (.cells #[u1, u2] 22)) (.slice (some ⟨w.heap.size, 0, none⟩) 2 2) [fs, gs] := by
  have ba := (Below.refl w.heap.size w).alloc (Nat.le_refl _) (.cells #[u1, u2] 22)
  have r := Row.new w 22 [u1, u2]
  refine ⟨_, 2, rfl, Nat.le_refl _, .inr ⟨_, 0, rfl, r.lt, fun i hi => ?_⟩⟩
  match i, hi with
  | 0, _ => exact ⟨u1, r.cell 0, h1.grow ba⟩
  | 1, _ => exact ⟨u2, r.cell 1, h2.grow ba⟩
theorem sls_one {w : World} {u1 : Value} {fs : List Int} (h1 : SlI w u1 fs) : SlS (w.alloc (.cells #[u1] 22)) (.slice (some ⟨w.heap.size, 0, none⟩) 1 1) [fs] := by
  have ba := (Below.refl w.heap.size w).alloc (Nat.le_refl _) (.cells #[u1] 22)
  have r := Row.new w 22 [u1]
  refine ⟨_, 1, rfl, Nat.le_refl _, .inr ⟨_, 0, rfl, r.lt, fun i hi => ?_⟩⟩
  match i, hi with
  | 0, _ => exact ⟨u1, r.cell 0, h1.grow ba⟩
theorem check2 {w : World} {v u1 u2 : Value} {zs fs gs : List Int} (hv : SlI w v zs) (hl : zs.length ≤ 1000000) (h1 : SlI w u1 fs) (h2 : SlI w u2 gs) :
    Calls Try.prog 50 #[v, .slice (some ⟨w.heap.size, 0, none⟩) 2 2] (w.alloc (.cells #[u1, u2] 22)) fun e w' => e = .returned (.int .i64 (errA zs [fs, gs])) ∧ Below w.heap.size w w' := by
  have ba := (Below.refl w.heap.size w).alloc (Nat.le_refl _) (.cells #[u1, u2] 22)
  exact (checkAll_any zs [fs, gs] v _ _ (hv.grow ba) (sls_two h1 h2) hl (by simp)).mono fun e w' ⟨h1, h2⟩ => ⟨h1, Below.andThen ba h2 (Nat.le_refl _)⟩
theorem check1 {w : World} {v u1 : Value} {zs fs : List Int} (hv : SlI w v zs) (hl : zs.length ≤ 1000000) (h1 : SlI w u1 fs) :
    Calls Try.prog 50 #[v, .slice (some ⟨w.heap.size, 0, none⟩) 1 1] (w.alloc (.cells #[u1] 22)) fun e w' => e = .returned (.int .i64 (errA zs [fs])) ∧ Below w.heap.size w w' := by
  have ba := (Below.refl w.heap.size w).alloc (Nat.le_refl _) (.cells #[u1] 22)
  exact (checkAll_any zs [fs] v _ _ (hv.grow ba) (sls_one h1) hl (by simp)).mono fun e w' ⟨h1, h2⟩ => ⟨h1, Below.andThen ba h2 (Nat.le_refl _)⟩
theorem errA_ok {zs : List Int} {fss : List (List Int)} (h : errA zs fss = 0) : jugsB zs = true ∧ ∀ fs ∈ fss, fitsB zs fs = true := by
  unfold errA at h
  split at h
  · rename_i hj
    split at h
    · rename_i ha; exact ⟨hj, List.all_eq_true.1 ha⟩
    · cases h
  · cases h
theorem padF_getD (fs : List Int) (i : Nat) (hi : i < 4) : (padF fs).getD i 0 = fs.getD i 0 := by
  unfold padF
  rw [List.getD_eq_getElem?_getD, List.getElem?_take, if_pos hi, List.getD_eq_getElem?_getD]
  by_cases h : i < fs.length
  · rw [List.getElem?_append_left h]
  · rw [List.getElem?_append_right (by omega), List.getElem?_replicate, if_pos (by omega), List.getElem?_eq_none (by omega)]; rfl
theorem fits_pad {zs fs : List Int} (hj : jugsB zs = true) (hf : fitsB zs fs = true) : FitP (padF zs) (padF fs) ∧ fs.length = zs.length ∧ fs.length ≤ 4 := by
  have hjj := hj
  unfold jugsB at hj
  simp only [Bool.and_eq_true, decide_eq_true_eq, List.all_eq_true] at hj
  unfold fitsB at hf
  simp only [Bool.and_eq_true, decide_eq_true_eq, List.all_eq_true] at hf
  refine ⟨⟨padF_len fs, fun i hi => ?_⟩, hf.1, by omega⟩
  rw [padF_getD fs i hi, padF_getD zs i hi]
  by_cases h : i < fs.length
  · have h1 := hf.2 i (List.mem_range.2 h)
    have h2 : i < zs.length := by omega
    have h3 := hj.2 zs[i] (List.getElem_mem h2)
    unfold sizeB at h3
    simp only [Bool.and_eq_true, decide_eq_true_eq] at h3
    rw [getD_lt h2] at h1 ⊢
    omega
  · have e1 : fs.getD i 0 = 0 := by rw [List.getD_eq_getElem?_getD, List.getElem?_eq_none (by omega)]; rfl
    have e2 : zs.getD i 0 = 0 := by rw [List.getD_eq_getElem?_getD, List.getElem?_eq_none (by omega)]; rfl
    rw [e1, e2]; omega
set_option maxRecDepth 100000 in
set_option maxHeartbeats 400000 in
theorem Way_err (zs fs gs : List Int) (v u1 u2 : Value) (cl : Bool) (w : World) (hv : SlI w v zs) (hl : zs.length ≤ 1000000) (h1 : SlI w u1 fs) (h2 : SlI w u2 gs) (k : Int) (he : errA zs [fs, gs] = k) (hk : k ≠ 0) :
    Calls Try.prog 27 #[v, u1, u2, .bool cl] w fun e w' => e = .returned (.tuple #[.slice none 0 0, .bool false, .int .i64 k]) ∧ Below w.heap.size w w' := by
  have HC := Lib.hid (check2 hv hl h1 h2)
  rw [he] at HC
  have hd : (k != 0) = true := by simp; exact hk
  obtain ⟨a1, c1, e1⟩ : ∃ a1 c1, u1 = .slice a1 fs.length c1 := by obtain ⟨a, c, h, _⟩ := h1; exact ⟨a, c, h⟩
  obtain ⟨a2, c2, e2⟩ : ∃ a2 c2, u2 = .slice a2 gs.length c2 := by obtain ⟨a, c, h, _⟩ := h2; exact ⟨a, c, h⟩
  clear hv hl he h1 h2
  generalize fs.length = k1 at *
  generalize gs.length = k2 at *
  subst e1 e2
  go_enter Try.func27, Try.ntmps27
  go_wp2_with fail
  refine HC.out.mono ?_
  rintro e w1 ⟨rfl, hb⟩
  have HB := Lib.hid hb
  clear hb HC
  go_wp2_with fail
  refine bodyPost_ret (v := .tuple #[.slice none 0 0, .bool false, .int .i64 k]) (by simp [results, Try.results27, go_sem]) rfl ?_
  exact ⟨rfl, HB.out⟩
def glG (G : List Int) : List Int → Bool := fun F => decide (F = G)
theorem len15 {vs : List Value} (h : vs.length = 15) : ∃ x0 x1 x2 x3 x4 x5 x6 x7 x8 x9 x10 x11 x12 x13 x14, vs = [x0, x1, x2, x3, x4, x5, x6, x7, x8, x9, x10, x11, x12, x13, x14] := by
  obtain ⟨x0, r0, rfl, h0⟩ := len_cons h
  obtain ⟨x1, r1, rfl, h1⟩ := len_cons h0
  obtain ⟨x2, r2, rfl, h2⟩ := len_cons h1
  obtain ⟨x3, r3, rfl, h3⟩ := len_cons h2
  obtain ⟨x4, r4, rfl, h4⟩ := len_cons h3
  obtain ⟨x5, r5, rfl, h5⟩ := len_cons h4
  obtain ⟨x6, r6, rfl, h6⟩ := len_cons h5
  obtain ⟨x7, r7, rfl, h7⟩ := len_cons h6
  obtain ⟨x8, r8, rfl, h8⟩ := len_cons h7
  obtain ⟨x9, r9, rfl, h9⟩ := len_cons h8
  obtain ⟨x10, r10, rfl, h10⟩ := len_cons h9
  obtain ⟨x11, r11, rfl, h11⟩ := len_cons h10
  obtain ⟨x12, r12, rfl, h12⟩ := len_cons h11
  obtain ⟨x13, r13, rfl, h13⟩ := len_cons h12
  obtain ⟨x14, r14, rfl, h14⟩ := len_cons h13
  obtain rfl := List.eq_nil_of_length_eq_zero h14
  exact ⟨_, _, _, _, _, _, _, _, _, _, _, _, _, _, _, rfl⟩
set_option maxRecDepth 100000 in
set_option maxHeartbeats 4000000 in
theorem Way_ok (zs fs gs : List Int) (v u1 u2 : Value) (cl : Bool) (w : World) (hv : SlI w v zs) (hl : zs.length ≤ 1000000) (h1 : SlI w u1 fs) (h2 : SlI w u2 gs) (he : errA zs [fs, gs] = 0) (res : Sn × Option (List Int)) (hres : srch (padF zs) (glG (padF gs)) (ssF cl zs.length) 28562 (padF fs) = some res) :
    Calls Try.prog 27 #[v, u1, u2, .bool cl] w fun e w' => ∃ s, e = .returned (.tuple #[s, .bool res.2.isSome, .int .i64 0]) ∧ OwnP w' w.heap.size s (wayF res) ∧ Below w.heap.size w w' := by
  obtain ⟨hj, hfits⟩ := errA_ok he
  obtain ⟨hfit, hd1, hfl⟩ := fits_pad hj (hfits fs (by simp))
  obtain ⟨hfit2, hd2, hgl⟩ := fits_pad hj (hfits gs (by simp))
  have HC := Lib.hid (check2 hv hl h1 h2)
  rw [he] at HC
  obtain ⟨hz1, hz4, p0, p1, p2, p3, hp, hjv, b0, b1, b2, b3⟩ := jugs_open hj
  obtain ⟨f0, f1, f2, f3, hf⟩ := agg4 (padF fs) (padF_len fs)
  obtain ⟨g0, g1, g2, g3, hg⟩ := agg4 (padF gs) (padF_len gs)
  rw [hp, hf, hg] at hres
  rw [hp, hf] at hfit
  obtain ⟨n, hn0⟩ : ∃ n, zs.length = n := ⟨_, rfl⟩
  rw [hn0] at hres hjv
  have hn : n ≤ 4 := by omega
  unfold ssF at hres
  have hst := stepsV_any (n : Int) p0 p1 p2 p3 cl
  rw [show (if cl = true then (0 : Int) else -1) = lsF cl from rfl] at hst
  have HST := Lib.hid hst
  have HLS := Lib.hid (lsF_ok cl)
  have HM := Lib.hid (mF_ok cl n)
  have htr := srch_tree _ _ (lsF cl) (mF cl n) HLS.out (by have := HM.out; omega) _ hfit _ res hres
  have hfd := fun b W hs => found_any res htr.1 (fun g hg => (htr.2.2 g hg).1) b W hs
  generalize res.2.isSome = ok at *
  generalize wayF res = way at *
  have HFD := Lib.hid hfd
  generalize lsF cl = ls at *
  generalize mF cl n = m at *
  have HFIT := Lib.hid hfit
  have HRES := Lib.hid hres
  have HJ0 := Lib.hid (fun (W : World) (hb : Below w.heap.size w W) => jugsOf_any zs v W (hv.grow hb) hz4)
  have HF0 := Lib.hid (fun (W : World) (hb : Below w.heap.size w W) => fillingOf_any fs u1 W (h1.grow hb) hfl)
  have HG0 := Lib.hid (fun (W : World) (hb : Below w.heap.size w W) => fillingOf_any gs u2 W (h2.grow hb) hgl)
  rw [hjv] at HJ0
  rw [hf] at HF0
  rw [hg] at HG0
  simp only [aggI, List.map_cons, List.map_nil, encI] at HF0 HG0
  obtain ⟨a1, c1, e1⟩ : ∃ a1 c1, u1 = .slice a1 fs.length c1 := by obtain ⟨a, c, h, _⟩ := h1; exact ⟨a, c, h⟩
  obtain ⟨a2, c2, e2⟩ : ∃ a2 c2, u2 = .slice a2 gs.length c2 := by obtain ⟨a, c, h, _⟩ := h2; exact ⟨a, c, h⟩
  clear hp hj hjv b0 b1 b2 b3 h1 h2 hz1 hz4 hn0 hst hfit hfit2 hres hv hfd htr hfits hfl hgl hf hg he hl hd1 hd2
  generalize fs.length = k1 at *
  generalize gs.length = k2 at *
  subst e1 e2
  go_enter Try.func27, Try.ntmps27
  go_wp2_with fail
  refine HC.out.mono ?_
  rintro e w1 ⟨rfl, hb⟩
  have HB1 := Lib.hid hb
  clear hb HC
  go_wp2_with fail
  refine (HJ0.out w1 HB1.out).mono ?_
  rintro e w2 ⟨rfl, hb⟩
  have HB2 := Lib.hid (Below.andThen HB1.out hb (Nat.le_refl _))
  clear hb HJ0
  go_wp2_with fail
  refine (HG0.out w2 HB2.out).mono ?_
  rintro e w3 ⟨rfl, hb⟩
  have hB3 := Below.andThen HB2.out hb (Nat.le_refl _)
  clear hb HG0
  have bj := (Below.refl w3.heap.size w3).alloc (Nat.le_refl _) (.cells #[.int .i64 (n : Int), .int .i64 p0, .int .i64 p1, .int .i64 p2, .int .i64 p3] 80)
  have zj := size_al w3 (.cells #[.int .i64 (n : Int), .int .i64 p0, .int .i64 p1, .int .i64 p2, .int .i64 p3] 80)
  have rj := Row.new w3 80 [.int .i64 (n : Int), .int .i64 p0, .int .i64 p1, .int .i64 p2, .int .i64 p3]
  have bg := (Below.refl (w3.alloc (.cells #[.int .i64 (n : Int), .int .i64 p0, .int .i64 p1, .int .i64 p2, .int .i64 p3] 80)).heap.size (w3.alloc (.cells #[.int .i64 (n : Int), .int .i64 p0, .int .i64 p1, .int .i64 p2, .int .i64 p3] 80))).alloc (Nat.le_refl _) (.cells #[.int .i64 g0, .int .i64 g1, .int .i64 g2, .int .i64 g3] 77)
  have rg := Row.new (w3.alloc (.cells #[.int .i64 (n : Int), .int .i64 p0, .int .i64 p1, .int .i64 p2, .int .i64 p3] 80)) 77 [.int .i64 g0, .int .i64 g1, .int .i64 g2, .int .i64 g3]
  rw [zj] at rg
  have RJ := Lib.hid (rj.below bg rj.lt)
  have RG := Lib.hid rg
  have hB4 := Below.andThen (Below.andThen hB3 bj (Nat.le_refl _)) bg (Nat.le_refl _)
  have B2 := Lib.hid hB4
  have HN0 := Lib.hid hB4.size
  have HF := Lib.hid (fun (W : World) (hb : Below ((w3.alloc (.cells #[.int .i64 (n : Int), .int .i64 p0, .int .i64 p1, .int .i64 p2, .int .i64 p3] 80)).alloc (.cells #[.int .i64 g0, .int .i64 g1, .int .i64 g2, .int .i64 g3] 77)).heap.size ((w3.alloc (.cells #[.int .i64 (n : Int), .int .i64 p0, .int .i64 p1, .int .i64 p2, .int .i64 p3] 80)).alloc (.cells #[.int .i64 g0, .int .i64 g1, .int .i64 g2, .int .i64 g3] 77)) W) => HF0.out W (Below.andThen hB4 hb (Nat.le_refl _)))
  have HAG := Lib.hid (fun (W2 : World) x0 x1 x2 x3 (hb2 : Below ((w3.alloc (.cells #[.int .i64 (n : Int), .int .i64 p0, .int .i64 p1, .int .i64 p2, .int .i64 p3] 80)).alloc (.cells #[.int .i64 g0, .int .i64 g1, .int .i64 g2, .int .i64 g3] 77)).heap.size ((w3.alloc (.cells #[.int .i64 (n : Int), .int .i64 p0, .int .i64 p1, .int .i64 p2, .int .i64 p3] 80)).alloc (.cells #[.int .i64 g0, .int .i64 g1, .int .i64 g2, .int .i64 g3] 77)) W2) => wayGoal_any g0 g1 g2 g3 x0 x1 x2 x3 (w3.heap.size + 1) W2 (RG.out.below hb2 RG.out.lt))
  clear hB3 bj zj rj bg rg hB4 HF0
  go_wp2_with fail
  refine wp_region_rel (by kernel_rfl) (by kernel_rfl) [29, 30, 31, 32, 33, 34, 35, 36, 37, 38, 28, 39, 40, 14, 15] [LitR (.slice a1 k1 c1), LitR (.agg #[.int .i64 f0, .int .i64 f1, .int .i64 f2, .int .i64 f3]), LitR (.agg #[.int .i64 (n : Int), .int .i64 p0, .int .i64 p1, .int .i64 p2, .int .i64 p3]), LitR (.bool cl), (StepsV (n : Int) p0 p1 p2 p3 ls), LitR (.agg #[.int .i64 (n : Int), .int .i64 p0, .int .i64 p1, .int .i64 p2, .int .i64 p3]), LitR (.func (.func 54) #[.agg #[.int .i64 (n : Int), .int .i64 p0, .int .i64 p1, .int .i64 p2, .int .i64 p3]] #[]), LitR (.func (.func 58) #[] #[.pointer (some ⟨w3.heap.size + 1, 0, none⟩)]), (FoundV res), (WayV w.heap.size way ok), (WayV w.heap.size way ok), (LstV w.heap.size way), LitR (.bool ok), (LstV w.heap.size way), LitR (.bool ok)] 15 rfl (List.forall_mem_cons.2 ⟨LitR.stab _, (List.forall_mem_cons.2 ⟨LitR.stab _, (List.forall_mem_cons.2 ⟨LitR.stab _, (List.forall_mem_cons.2 ⟨LitR.stab _, (List.forall_mem_cons.2 ⟨StepsV.stab _ _ _ _ _ _, (List.forall_mem_cons.2 ⟨LitR.stab _, (List.forall_mem_cons.2 ⟨LitR.stab _, (List.forall_mem_cons.2 ⟨LitR.stab _, (List.forall_mem_cons.2 ⟨FoundV.stab _, (List.forall_mem_cons.2 ⟨WayV.stab _ _ _, (List.forall_mem_cons.2 ⟨WayV.stab _ _ _, (List.forall_mem_cons.2 ⟨LstV.stab _ _, (List.forall_mem_cons.2 ⟨LitR.stab _, (List.forall_mem_cons.2 ⟨LstV.stab _ _, (List.forall_mem_cons.2 ⟨LitR.stab _, (fun _ h => nomatch h)⟩)⟩)⟩)⟩)⟩)⟩)⟩)⟩)⟩)⟩)⟩)⟩)⟩)⟩)⟩) ⟨[undef, undef, undef, undef, undef, undef, undef, undef, undef, undef, undef, undef, undef, undef, undef], by simp only [putAll, Act.put, List.setIfInBounds_toArray, List.set_cons_succ, List.set_cons_zero], rfl⟩ ?steps ?fin
  case steps =>
    simp only [relSteps]
    refine ⟨?_, ?_, ?_, ?_, ?_, ?_, ?_, ?_, ?_, ?_, ?_, ?_, ?_, ?_, ?_, trivial⟩
    · rintro vs W K hc hvl hw hK
      obtain ⟨x0, x1, x2, x3, x4, x5, x6, x7, x8, x9, x10, x11, x12, x13, x14, rfl⟩ := len15 hvl
      have HK := Lib.hid hK
      have HC := Lib.hid hc
      have HW := Lib.hid hw
      clear hK hc hw hvl
      simp only [putAll, Act.put, List.setIfInBounds_toArray, List.set_cons_succ, List.set_cons_zero]
      clear HW
      go_wp2_with fail
      have fin := HK.out (.slice a1 k1 c1) W (Below.refl _ _) rfl
      simp only [putAll, Act.put, List.setIfInBounds_toArray, List.set_cons_succ, List.set_cons_zero] at fin
      exact fin
    · rintro vs W K hc hvl hw hK
      obtain ⟨x0, x1, x2, x3, x4, x5, x6, x7, x8, x9, x10, x11, x12, x13, x14, rfl⟩ := len15 hvl
      have HK := Lib.hid hK
      have HC := Lib.hid hc
      have HW := Lib.hid hw
      clear hK hc hw hvl
      have hd0 := HW.out ⟨0, .data⟩ (by simp) rfl
      obtain rfl : x0 = .slice a1 k1 c1 := rel_get hd0 rfl
      simp only [putAll, Act.put, List.setIfInBounds_toArray, List.set_cons_succ, List.set_cons_zero]
      clear HW hd0
      go_wp2_with fail
      refine (HF.out W HC.out).mono ?_
      rintro e W' ⟨rfl, hb'⟩
      have HB' := Lib.hid hb'
      clear hb'
      go_wp2_with fail
      have fin := HK.out (.agg #[.int .i64 f0, .int .i64 f1, .int .i64 f2, .int .i64 f3]) W' HB'.out rfl
      simp only [putAll, Act.put, List.setIfInBounds_toArray, List.set_cons_succ, List.set_cons_zero] at fin
      exact fin
    · rintro vs W K hc hvl hw hK
      obtain ⟨x0, x1, x2, x3, x4, x5, x6, x7, x8, x9, x10, x11, x12, x13, x14, rfl⟩ := len15 hvl
      have HK := Lib.hid hK
      have HC := Lib.hid hc
      have HW := Lib.hid hw
      clear hK hc hw hvl
      simp only [putAll, Act.put, List.setIfInBounds_toArray, List.set_cons_succ, List.set_cons_zero]
      have rj1 := RJ.out.below HC.out RJ.out.lt
      have j0 : W.cell? ⟨w3.heap.size, 0, none⟩ = some (.int .i64 (n : Int)) := rj1.cell 0
      have j1 : W.cell? ⟨w3.heap.size, 1, none⟩ = some (.int .i64 p0) := rj1.cell 1
      have j2 : W.cell? ⟨w3.heap.size, 2, none⟩ = some (.int .i64 p1) := rj1.cell 2
      have j3 : W.cell? ⟨w3.heap.size, 3, none⟩ = some (.int .i64 p2) := rj1.cell 3
      have j4 : W.cell? ⟨w3.heap.size, 4, none⟩ = some (.int .i64 p3) := rj1.cell 4
      clear rj1
      clear HW
      go_wp2_with fail
      have fin := HK.out (.agg #[.int .i64 (n : Int), .int .i64 p0, .int .i64 p1, .int .i64 p2, .int .i64 p3]) W (Below.refl _ _) rfl
      simp only [putAll, Act.put, List.setIfInBounds_toArray, List.set_cons_succ, List.set_cons_zero] at fin
      exact fin
    · rintro vs W K hc hvl hw hK
      obtain ⟨x0, x1, x2, x3, x4, x5, x6, x7, x8, x9, x10, x11, x12, x13, x14, rfl⟩ := len15 hvl
      have HK := Lib.hid hK
      have HC := Lib.hid hc
      have HW := Lib.hid hw
      clear hK hc hw hvl
      simp only [putAll, Act.put, List.setIfInBounds_toArray, List.set_cons_succ, List.set_cons_zero]
      clear HW
      go_wp2_with fail
      have fin := HK.out (.bool cl) W (Below.refl _ _) rfl
      simp only [putAll, Act.put, List.setIfInBounds_toArray, List.set_cons_succ, List.set_cons_zero] at fin
      exact fin
    · rintro vs W K hc hvl hw hK
      obtain ⟨x0, x1, x2, x3, x4, x5, x6, x7, x8, x9, x10, x11, x12, x13, x14, rfl⟩ := len15 hvl
      have HK := Lib.hid hK
      have HC := Lib.hid hc
      have HW := Lib.hid hw
      clear hK hc hw hvl
      have hd2 := HW.out ⟨2, .data⟩ (by simp) rfl
      obtain rfl : x2 = .agg #[.int .i64 (n : Int), .int .i64 p0, .int .i64 p1, .int .i64 p2, .int .i64 p3] := rel_get hd2 rfl
      have hd3 := HW.out ⟨3, .data⟩ (by simp) rfl
      obtain rfl : x3 = .bool cl := rel_get hd3 rfl
      simp only [putAll, Act.put, List.setIfInBounds_toArray, List.set_cons_succ, List.set_cons_zero]
      clear HW hd2 hd3
      go_wp2_with fail
      refine (HST.out W).mono ?_
      rintro e W' ⟨x, rfl, hst1, hb1⟩
      have HB' := Lib.hid hb1
      have HB2 := Lib.hid hst1
      clear hb1 hst1
      go_wp2_with fail
      have fin := HK.out (x) W' HB'.out HB2.out
      simp only [putAll, Act.put, List.setIfInBounds_toArray, List.set_cons_succ, List.set_cons_zero] at fin
      exact fin
    · rintro vs W K hc hvl hw hK
      obtain ⟨x0, x1, x2, x3, x4, x5, x6, x7, x8, x9, x10, x11, x12, x13, x14, rfl⟩ := len15 hvl
      have HK := Lib.hid hK
      have HC := Lib.hid hc
      have HW := Lib.hid hw
      clear hK hc hw hvl
      simp only [putAll, Act.put, List.setIfInBounds_toArray, List.set_cons_succ, List.set_cons_zero]
      have rj1 := RJ.out.below HC.out RJ.out.lt
      have j0 : W.cell? ⟨w3.heap.size, 0, none⟩ = some (.int .i64 (n : Int)) := rj1.cell 0
      have j1 : W.cell? ⟨w3.heap.size, 1, none⟩ = some (.int .i64 p0) := rj1.cell 1
      have j2 : W.cell? ⟨w3.heap.size, 2, none⟩ = some (.int .i64 p1) := rj1.cell 2
      have j3 : W.cell? ⟨w3.heap.size, 3, none⟩ = some (.int .i64 p2) := rj1.cell 3
      have j4 : W.cell? ⟨w3.heap.size, 4, none⟩ = some (.int .i64 p3) := rj1.cell 4
      clear rj1
      clear HW
      go_wp2_with fail
      have fin := HK.out (.agg #[.int .i64 (n : Int), .int .i64 p0, .int .i64 p1, .int .i64 p2, .int .i64 p3]) W (Below.refl _ _) rfl
      simp only [putAll, Act.put, List.setIfInBounds_toArray, List.set_cons_succ, List.set_cons_zero] at fin
      exact fin
    · rintro vs W K hc hvl hw hK
      obtain ⟨x0, x1, x2, x3, x4, x5, x6, x7, x8, x9, x10, x11, x12, x13, x14, rfl⟩ := len15 hvl
      have HK := Lib.hid hK
      have HC := Lib.hid hc
      have HW := Lib.hid hw
      clear hK hc hw hvl
      have hd5 := HW.out ⟨5, .data⟩ (by simp) rfl
      obtain rfl : x5 = .agg #[.int .i64 (n : Int), .int .i64 p0, .int .i64 p1, .int .i64 p2, .int .i64 p3] := rel_get hd5 rfl
      simp only [putAll, Act.put, List.setIfInBounds_toArray, List.set_cons_succ, List.set_cons_zero]
      clear HW hd5
      go_wp2_with fail
      have fin := HK.out (.func (.func 54) #[.agg #[.int .i64 (n : Int), .int .i64 p0, .int .i64 p1, .int .i64 p2, .int .i64 p3]] #[]) W (Below.refl _ _) rfl
      simp only [putAll, Act.put, List.setIfInBounds_toArray, List.set_cons_succ, List.set_cons_zero] at fin
      exact fin
    · rintro vs W K hc hvl hw hK
      obtain ⟨x0, x1, x2, x3, x4, x5, x6, x7, x8, x9, x10, x11, x12, x13, x14, rfl⟩ := len15 hvl
      have HK := Lib.hid hK
      have HC := Lib.hid hc
      have HW := Lib.hid hw
      clear hK hc hw hvl
      simp only [putAll, Act.put, List.setIfInBounds_toArray, List.set_cons_succ, List.set_cons_zero]
      clear HW
      go_wp2_with fail
      have fin := HK.out (.func (.func 58) #[] #[.pointer (some ⟨w3.heap.size + 1, 0, none⟩)]) W (Below.refl _ _) rfl
      simp only [putAll, Act.put, List.setIfInBounds_toArray, List.set_cons_succ, List.set_cons_zero] at fin
      exact fin
    · rintro vs W K hc hvl hw hK
      obtain ⟨x0, x1, x2, x3, x4, x5, x6, x7, x8, x9, x10, x11, x12, x13, x14, rfl⟩ := len15 hvl
      have HK := Lib.hid hK
      have HC := Lib.hid hc
      have HW := Lib.hid hw
      clear hK hc hw hvl
      have hd1 := HW.out ⟨1, .data⟩ (by simp) rfl
      obtain rfl : x1 = .agg #[.int .i64 f0, .int .i64 f1, .int .i64 f2, .int .i64 f3] := rel_get hd1 rfl
      have hd4 := HW.out ⟨4, .data⟩ (by simp) rfl
      have hr := rel_get (x := x4) hd4 rfl
      obtain ⟨bl, bj, rfl, hrl, hrj⟩ := hr
      have HRL := Lib.hid hrl
      have HRJ := Lib.hid hrj
      clear hrl hrj
      have hd6 := HW.out ⟨6, .data⟩ (by simp) rfl
      obtain rfl : x6 = .func (.func 54) #[.agg #[.int .i64 (n : Int), .int .i64 p0, .int .i64 p1, .int .i64 p2, .int .i64 p3]] #[] := rel_get hd6 rfl
      have hd7 := HW.out ⟨7, .data⟩ (by simp) rfl
      obtain rfl : x7 = .func (.func 58) #[] #[.pointer (some ⟨w3.heap.size + 1, 0, none⟩)] := rel_get hd7 rfl
      simp only [putAll, Act.put, List.setIfInBounds_toArray, List.set_cons_succ, List.set_cons_zero]
      clear HW hd1 hd4 hd6 hd7
      go_wp2_with fail
      refine (search_any f0 f1 f2 f3 (glG [g0, g1, g2, g3]) 58 #[.pointer (some ⟨w3.heap.size + 1, 0, none⟩)] n p0 p1 p2 p3 ls m hn HLS.out HM.out bl bj W HRL.out HRJ.out (enters_of Try.func58 (by kernel_rfl) rfl) (fun W2 x0 x1 x2 x3 hb2 _ => HAG.out W2 x0 x1 x2 x3 (Below.andThen HC.out hb2 (Nat.le_refl _))) HFIT.out 28562 (by omega) res HRES.out).mono ?_
      rintro e W' ⟨rfl, hs1, hb1⟩
      have HB' := Lib.hid hb1
      have HS1 := Lib.hid hs1
      clear hb1 hs1
      go_wp2_with fail
      have fin := HK.out (foundV (W.heap.size + 1 + 1 + 1 + 1) res) W' HB'.out ⟨_, rfl, HS1.out⟩
      simp only [putAll, Act.put, List.setIfInBounds_toArray, List.set_cons_succ, List.set_cons_zero] at fin
      exact fin
    · rintro vs W K hc hvl hw hK
      obtain ⟨x0, x1, x2, x3, x4, x5, x6, x7, x8, x9, x10, x11, x12, x13, x14, rfl⟩ := len15 hvl
      have HK := Lib.hid hK
      have HC := Lib.hid hc
      have HW := Lib.hid hw
      clear hK hc hw hvl
      have hd8 := HW.out ⟨8, .data⟩ (by simp) rfl
      have hr := rel_get (x := x8) hd8 rfl
      obtain ⟨bf, rfl, hsn⟩ := hr
      have HSN := Lib.hid hsn
      clear hsn
      simp only [putAll, Act.put, List.setIfInBounds_toArray, List.set_cons_succ, List.set_cons_zero]
      clear HW hd8
      go_wp2_with fail
      refine (HFD.out bf W HSN.out).mono ?_
      rintro e W' ⟨x, rfl, hw1, hb1⟩
      have HB' := Lib.hid hb1
      have HW1 := Lib.hid (WayV.mono hw1 (Nat.le_trans HN0.out HC.out.size))
      clear hb1 hw1
      go_wp2_with fail
      have fin := HK.out (x) W' HB'.out HW1.out
      simp only [putAll, Act.put, List.setIfInBounds_toArray, List.set_cons_succ, List.set_cons_zero] at fin
      exact fin
    · rintro vs W K hc hvl hw hK
      obtain ⟨x0, x1, x2, x3, x4, x5, x6, x7, x8, x9, x10, x11, x12, x13, x14, rfl⟩ := len15 hvl
      have HK := Lib.hid hK
      have HC := Lib.hid hc
      have HW := Lib.hid hw
      clear hK hc hw hvl
      have hd9 := HW.out ⟨9, .data⟩ (by simp) rfl
      have hr := rel_get (x := x9) hd9 rfl
      obtain ⟨s, rfl, ho⟩ := hr
      have HO := Lib.hid ho
      clear ho
      simp only [putAll, Act.put, List.setIfInBounds_toArray, List.set_cons_succ, List.set_cons_zero]
      clear HW hd9
      go_wp2_with fail
      have fin := HK.out (.tuple #[s, .bool ok]) W (Below.refl _ _) ⟨s, rfl, HO.out⟩
      simp only [putAll, Act.put, List.setIfInBounds_toArray, List.set_cons_succ, List.set_cons_zero] at fin
      exact fin
    · rintro vs W K hc hvl hw hK
      obtain ⟨x0, x1, x2, x3, x4, x5, x6, x7, x8, x9, x10, x11, x12, x13, x14, rfl⟩ := len15 hvl
      have HK := Lib.hid hK
      have HC := Lib.hid hc
      have HW := Lib.hid hw
      clear hK hc hw hvl
      have hd10 := HW.out ⟨10, .data⟩ (by simp) rfl
      have hr := rel_get (x := x10) hd10 rfl
      obtain ⟨s, rfl, ho⟩ := hr
      have HO := Lib.hid ho
      clear ho
      simp only [putAll, Act.put, List.setIfInBounds_toArray, List.set_cons_succ, List.set_cons_zero]
      clear HW hd10
      go_wp2_with fail
      have fin := HK.out (s) W (Below.refl _ _) HO.out
      simp only [putAll, Act.put, List.setIfInBounds_toArray, List.set_cons_succ, List.set_cons_zero] at fin
      exact fin
    · rintro vs W K hc hvl hw hK
      obtain ⟨x0, x1, x2, x3, x4, x5, x6, x7, x8, x9, x10, x11, x12, x13, x14, rfl⟩ := len15 hvl
      have HK := Lib.hid hK
      have HC := Lib.hid hc
      have HW := Lib.hid hw
      clear hK hc hw hvl
      have hd10 := HW.out ⟨10, .data⟩ (by simp) rfl
      have hr := rel_get (x := x10) hd10 rfl
      obtain ⟨s, rfl, ho⟩ := hr
      have HO := Lib.hid ho
      clear ho
      simp only [putAll, Act.put, List.setIfInBounds_toArray, List.set_cons_succ, List.set_cons_zero]
      clear HW hd10
      go_wp2_with fail
      have fin := HK.out (.bool ok) W (Below.refl _ _) rfl
      simp only [putAll, Act.put, List.setIfInBounds_toArray, List.set_cons_succ, List.set_cons_zero] at fin
      exact fin
    · rintro vs W K hc hvl hw hK
      obtain ⟨x0, x1, x2, x3, x4, x5, x6, x7, x8, x9, x10, x11, x12, x13, x14, rfl⟩ := len15 hvl
      have HK := Lib.hid hK
      have HC := Lib.hid hc
      have HW := Lib.hid hw
      clear hK hc hw hvl
      have hd11 := HW.out ⟨11, .data⟩ (by simp) rfl
      have hr := rel_get (x := x11) hd11 rfl
      have HO := Lib.hid (show OwnP W w.heap.size x11 way from hr)
      simp only [putAll, Act.put, List.setIfInBounds_toArray, List.set_cons_succ, List.set_cons_zero]
      clear HW hd11
      go_wp2_with fail
      have fin := HK.out (x11) W (Below.refl _ _) HO.out
      simp only [putAll, Act.put, List.setIfInBounds_toArray, List.set_cons_succ, List.set_cons_zero] at fin
      exact fin
    · rintro vs W K hc hvl hw hK
      obtain ⟨x0, x1, x2, x3, x4, x5, x6, x7, x8, x9, x10, x11, x12, x13, x14, rfl⟩ := len15 hvl
      have HK := Lib.hid hK
      have HC := Lib.hid hc
      have HW := Lib.hid hw
      clear hK hc hw hvl
      have hd12 := HW.out ⟨12, .data⟩ (by simp) rfl
      obtain rfl : x12 = .bool ok := rel_get hd12 rfl
      simp only [putAll, Act.put, List.setIfInBounds_toArray, List.set_cons_succ, List.set_cons_zero]
      clear HW hd12
      go_wp2_with fail
      have fin := HK.out (.bool ok) W (Below.refl _ _) rfl
      simp only [putAll, Act.put, List.setIfInBounds_toArray, List.set_cons_succ, List.set_cons_zero] at fin
      exact fin
  case fin =>
    intro vs W hc hvl hv
    obtain ⟨x0, x1, x2, x3, x4, x5, x6, x7, x8, x9, x10, x11, x12, x13, x14, rfl⟩ := len15 hvl
    have hd13 := hv 13 (by omega)
    have hr := rel_get (x := x13) hd13 rfl
    have HO := Lib.hid (show OwnP W w.heap.size x13 way from hr)
    clear hd13
    have hd14 := hv 14 (by omega)
    obtain rfl : x14 = .bool ok := rel_get hd14 rfl
    clear hd14
    simp only [putAll, Act.put, List.setIfInBounds_toArray, List.set_cons_succ, List.set_cons_zero]
    have T := Lib.hid (Below.andThen B2.out hc (Nat.le_refl _))
    clear hv hc hvl
    go_wp2_with fail
    refine bodyPost_ret (v := .tuple #[x13, .bool ok, .int .i64 0]) (by simp [results, Try.results27, go_sem]) rfl ?_
    exact ⟨x13, rfl, HO.out, T.out⟩
end Go.Proofs.Ytlamppplnojpbaa
namespace Go.Proofs.Ytlamppplnojpbaa
open Go.RowKit Go.Shelf
attribute [local go_sem] Oper.semAt_some
/-! a range over the map of fillings -/
def HasS (D : DataW Value) (S : List Int → Option Value) : Prop := ∀ F, Fok F → ∀ kl, keyOf Try.prog 77 (aggI F) = some kl → Maps.has D kl = (S F).isSome ∧ ∀ v zd, S F = some v → D.atKey kl zd = .held v
/-- a range over the map is under way: what has come is in vis, c are still to come -/
def RngAt (W : World) (b r n : Nat) (S : List Int → Option Value) (vis : List (List Int)) (c : Nat) : Prop :=
  ∃ D left, W.ranges Try.prog 77 heldE b r n D left c ∧ HasS D S ∧ (∀ F, Fok F → ∀ kl, keyOf Try.prog 77 (aggI F) = some kl → left kl = ((S F).isSome && !vis.contains F)) ∧ (∀ kl, left kl = true → ∃ F, Fok F ∧ keyOf Try.prog 77 (aggI F) = some kl)
theorem RngAt.kept {W W' : World} {b r n : Nat} {S : List Int → Option Value} {vis : List (List Int)} {c : Nat} {row : Option Nat} (h : RngAt W b r n S vis c) (hg : W.grownBy W' row) (hb : some b ≠ row) (hr : some r ≠ row) : RngAt W' b r n S vis c := by
  obtain ⟨D, left, h1, h2⟩ := h
  exact ⟨D, left, h1.kept hg hb hr, h2⟩
theorem RngAt.grow {W W' : World} {b r n : Nat} {S : List Int → Option Value} {vis : List (List Int)} {c : Nat} (h : RngAt W b r n S vis c) (hb : Below W.heap.size W W') : RngAt W' b r n S vis c :=
  h.kept (row := none) ⟨hb.os, hb.tape, hb.output, hb.size, fun k hk _ => hb.block k hk⟩ (by simp) (by simp)
theorem RngAt.left {W : World} {b r n : Nat} {S : List Int → Option Value} {vis : List (List Int)} {c : Nat} (h : RngAt W b r n S vis c) : W.rangeLeft b r = c := by
  obtain ⟨D, left, h1, _⟩ := h
  exact h1.left_eq
theorem RngAt.lt {W : World} {b r n : Nat} {S : List Int → Option Value} {vis : List (List Int)} {c : Nat} (h : RngAt W b r n S vis c) : r < W.heap.size ∧ b < W.heap.size := by
  obtain ⟨D, left, h1, _⟩ := h
  exact ⟨h1.lt, h1.owns.lt⟩
section
variable {w : World} {ops : Array Oper} {rest : List Oper} {o : Oper} {a : Act} {Q : Exit → Act → World → Prop}
theorem wpList_range_seen (hg : o.guard = none) (m : Operand) (t : TypeId) (hop : o.op = Op.range t m) (ht : Try.prog.underlying t = some (.map 77 94)) (b n : Nat) (S : List Int → Option Value) (hm : a.eval m = .map (some b)) (hs : SeenAt w b n S)
    (hK : ∀ w', RngAt w' b w.heap.size n S [] n → w.grownBy w' none → w'.heap.size = w.heap.size + 1 → wpList Try.prog ops Q rest (a.put o.dst (.pointer (some ⟨w.heap.size, 0, none⟩))) w') :
    wpList Try.prog ops Q (o :: rest) a w := by
  obtain ⟨D, h1, h2, h3, h4⟩ := hs
  refine wpList_range_own w hg m t hop 77 94 law77 ht heldE b n D hm h1 (fun w' hr hgr hsz => hK w' ⟨D, _, by rw [h3] at hr; exact hr, h2, fun F hF kl hk => ?_, fun kl hk => h4 kl hk⟩ hgr hsz)
  rw [(h2 F hF kl hk).1]; simp
theorem wpList_next_seen (hg : o.guard = none) (it : Operand) (hop : o.op = Op.next it false) (b r n : Nat) (S : List Int → Option Value) (vis : List (List Int)) (c : Nat) (hit : a.eval it = .pointer (some ⟨r, 0, none⟩)) (h : RngAt w b r n S vis c)
    (hDone : (∀ F, Fok F → (S F).isSome = true → F ∈ vis) → wpList Try.prog ops Q rest (a.put o.dst (.tuple #[.bool false])) w)
    (hMore : ∀ (F : List Int) (v : Value) (w' : World) (c' : Nat), Fok F → S F = some v → F ∉ vis → RngAt w' b r n S (F :: vis) c' → c' < c → w.grownBy w' (some r) → w'.heap.size = w.heap.size →
      (Instr.entry (.pointer (some ⟨r, 0, none⟩))).run Try.prog w' = .ok (.tuple #[aggI F, v]) w' → wpList Try.prog ops Q rest (a.put o.dst (.tuple #[.bool true, aggI F, v])) w') :
    wpList Try.prog ops Q (o :: rest) a w := by
  obtain ⟨D, left, h1, h2, h3, h4⟩ := h
  refine wpList_plain hg fun K' hK' => ?_
  unfold Oper.wp
  rcases h1.next law77 o.type with ⟨h0, hl, hrun⟩ | ⟨key, v, kl, y, w', cnt', hkey, hlk, hv, hat, hrun, hrg, hlt, hgr, hsz, hen⟩
  · simp [execOp, hop, hit, hrun, Result.andThen]
    refine hK' _ _ (hDone fun F hF hS => ?_)
    obtain ⟨kl, hk⟩ := hF.key
    have h5 := h3 F hF kl hk
    rw [hl kl, hS] at h5
    simpa using h5
  · obtain ⟨F, hF, hk⟩ := h4 kl hlk
    have e := law77.inj hkey hk
    subst e
    have h5 := h3 F hF kl hk
    rw [hlk] at h5
    have h5 := h5.symm
    simp only [Bool.and_eq_true, Bool.not_eq_true', List.contains_eq_mem, decide_eq_false_iff_not] at h5
    have hyv : y = (.held v, []) := by unfold heldE at hv; exact (Option.some.inj hv).symm
    obtain ⟨v', hS⟩ := Option.isSome_iff_exists.1 h5.1
    have h6 := (h2 F hF kl hk).2 v' (.held v) hS
    rw [hat, hyv] at h6
    have hvv : v = v' := by simpa using h6
    subst hvv
    simp [execOp, hop, hit, hrun, Result.andThen]
    refine hK' _ _ (hMore F v w' cnt' hF hS h5.2 ⟨D, _, hrg, h2, fun G hG kl' hk' => ?_, fun kl' hk' => ?_⟩ hlt hgr hsz hen)
    · rw [h3 G hG kl' hk']
      by_cases hGF : G = F
      · subst hGF
        rw [hk] at hk'; cases hk'
        have : kl.sameKey kl = true := by
          have hik := law77.key hk
          exact WideAt.sameKey_self hik
        rw [this]; simp
      · have hne : kl' ≠ kl := fun ee => hGF (aggI_inj (law77.inj (hk'.trans (by rw [ee])) hk))
        rw [Maps.sameKey_ne hne]
        simp [hGF]
    · simp only [Bool.and_eq_true] at hk'
      exact h4 kl' hk'.1
theorem wpList_len_seen (hg : o.guard = none) (m : Operand) (t : TypeId) (hop : o.op = Op.call { callee := Callee.builtin Builtin.len, args := #[m], argTypes := #[t] }) (ht : Try.prog.underlying t = some (.map 77 94)) (b n : Nat) (S : List Int → Option Value) (hm : a.eval m = .map (some b)) (hs : SeenAt w b n S)
    (hK : wpList Try.prog ops Q rest (a.put o.dst (.int .i64 (n : Int))) w) : wpList Try.prog ops Q (o :: rest) a w := by
  obtain ⟨D, h1, h2, h3, h4⟩ := hs
  refine wpList_len_own w hg m t hop 77 94 ht heldE b n D hm h1 ?_
  rw [h3]; exact hK
end
end Go.Proofs.Ytlamppplnojpbaa
namespace Go.Proofs.Ytlamppplnojpbaa
open Go.RowKit Go.Shelf
attribute [local go_sem] Oper.semAt_some
theorem info3 : (Try.prog.info? 3).map (fun i => (i.zero, i.size, i.bytes)) = some (some (.int .i64 0), 1, 8) := by kernel_rfl
/-- the amounts that are marked -/
def markF (xs : List Int) : List Value := (List.range 13).map fun i : Nat => .bool (decide ((i : Int) ∈ xs))
theorem markF_len (xs : List Int) : (markF xs).length = 13 := by simp [markF]
theorem markF_set (xs : List Int) (a : Nat) : (markF xs).set a (.bool true) = markF ((a : Int) :: xs) := by
  refine List.ext_getElem (by simp [markF]) fun i h1 h2 => ?_
  rw [List.getElem_set]
  simp only [markF, List.getElem_map, List.getElem_range]
  by_cases h : a = i
  · subst h; simp
  · rw [if_neg h]
    have : ¬ ((i : Int) = (a : Int)) := by omega
    simp [this]
theorem markF_get (xs : List Int) (a : Nat) (ha : a < 13) : (markF xs)[a]? = some (.bool (decide ((a : Int) ∈ xs))) := by
  simp [markF, ha]
theorem markF_congr {xs ys : List Int} (h : ∀ a : Nat, a < 13 → ((a : Int) ∈ xs ↔ (a : Int) ∈ ys)) : markF xs = markF ys := by
  unfold markF
  refine List.map_congr_left fun i hi => ?_
  rw [decide_eq_decide.2 (h i (List.mem_range.1 hi))]
/-- the amounts of all fillings of a search -/
def amtB (A : Sn) (n : Nat) (i : Nat) : Bool := A.any fun p => decide ((i : Int) ∈ p.1.take n)
def amtL (A : Sn) (n k : Nat) : List Int := ((List.range k).filter (amtB A n)).map fun i : Nat => (i : Int)
theorem amtL_succ (A : Sn) (n k : Nat) : amtL A n (k + 1) = amtL A n k ++ (if amtB A n k = true then [(k : Int)] else []) := by
  unfold amtL
  rw [List.range_succ, List.filter_append, List.map_append]
  congr 1
  by_cases h : amtB A n k = true
  · rw [if_pos h]; simp [h]
  · rw [if_neg h]; simp [h]
set_option maxRecDepth 100000 in
set_option maxHeartbeats 400000 in
theorem Amounts_err (zs : List Int) (v : Value) (w : World) (hv : SlI w v zs) (hl : zs.length ≤ 1000000) (hj : jugsB zs = false) :
    Calls Try.prog 20 #[v] w fun e w' => e = .returned (.tuple #[.slice none 0 0, .int .i64 20]) ∧ Below w.heap.size w w' := by
  have HC := Lib.hid (check_any zs v w hv hl)
  have e : errJ zs = 20 := by unfold errJ; rw [if_neg (by rw [hj]; simp)]
  rw [e] at HC
  clear hv hl hj e
  go_enter Try.func20, Try.ntmps20
  go_wp2_with fail
  refine HC.out.mono ?_
  rintro e w1 ⟨rfl, hb⟩
  have HB := Lib.hid hb
  clear hb HC
  go_wp2_with fail
  refine bodyPost_ret (v := .tuple #[.slice none 0 0, .int .i64 20]) (by simp [results, Try.results20, go_sem]) rfl ?_
  exact ⟨rfl, HB.out⟩
theorem ne_blocks {W : World} {b r n g : Nat} {S : List Int → Option Value} {vis : List (List Int)} {c : Nat} {E : TypeId} {vs : List Value} (h : RngAt W b r n S vis c) (hr : Row W g E vs) (e : b = g) : False := by
  obtain ⟨D, left, h1, _⟩ := h
  obtain ⟨es, clock, hb, _⟩ := h1.owns
  subst e
  rw [show W.heap[b]? = _ from hr] at hb; cases hb
theorem cell_one_at (w : World) (x : Value) (t : TypeId) (n : Nat) (hn : w.heap.size = n) : ∀ j u, [x][j]? = some u → (w.alloc (.cells #[x] t)).cell? ((⟨n, 0, none⟩ : Addr).add j) = some u := by
  subst hn; exact cell_one_new w x t
theorem own_below {W0 W w2 : World} {o : Obj} {k : Nat} {v : Value} {xs : List Value} (h : W.ownsRow W0.heap.size 3 1 v k xs) (hb : Below W0.heap.size W0 W) (hg : (W.alloc o).grownBy w2 v.ownBlock) : Below W0.heap.size W0 w2 :=
  (Below.al hb (Nat.le_refl _) o).grown hg (Nat.le_trans hb.size (by simp)) (fun r e => by
    rcases h.2 with ⟨rfl, _⟩ | ⟨g', cap, cur, rfl, h1, _⟩
    · simp [Value.ownBlock] at e
    · simp [Value.ownBlock] at e; omega)
theorem filter_snoc (m : Nat → Bool) (k : Nat) : ((List.range (k + 1)).filter m).map (fun i : Nat => (i : Int)) = ((List.range k).filter m).map (fun i : Nat => (i : Int)) ++ (if m k = true then [(k : Int)] else []) := by
  rw [List.range_succ, List.filter_append, List.map_append]
  congr 1
  by_cases h : m k = true
  · rw [if_pos h]; simp [h]
  · rw [if_neg h]; simp [h]
theorem idx13 (m : Nat → Bool) (i : Nat) (hi : i < 13) (W : World) : (Instr.index 73 (.agg #[.bool (m 0), .bool (m 1), .bool (m 2), .bool (m 3), .bool (m 4), .bool (m 5), .bool (m 6), .bool (m 7), .bool (m 8), .bool (m 9), .bool (m 10), .bool (m 11), .bool (m 12)]) (.int .i64 (i : Int))).run Try.prog W = .ok (.bool (m i)) W := by
  rcases (show i = 0 ∨ i = 1 ∨ i = 2 ∨ i = 3 ∨ i = 4 ∨ i = 5 ∨ i = 6 ∨ i = 7 ∨ i = 8 ∨ i = 9 ∨ i = 10 ∨ i = 11 ∨ i = 12 by omega) with rfl | rfl | rfl | rfl | rfl | rfl | rfl | rfl | rfl | rfl | rfl | rfl | rfl <;> kernel_rfl
theorem marks_all {P : List Int} {ss : List (Int × Int)} {S : List Int} {A : Sn} (ht : TreeA P ss S A) (n : Nat) {vis : List (List Int)} (hall : ∀ F, Fok F → (seenV A F).isSome = true → F ∈ vis) (hvis : ∀ F ∈ vis, (seenV A F).isSome = true) :
    ((List.range 13).filter (fun i : Nat => decide ((i : Int) ∈ vis.flatMap (·.take n)))).map (fun i : Nat => (i : Int)) = amtL A n 13 := by
  unfold amtL
  congr 1
  refine List.filter_congr fun i _ => ?_
  unfold amtB
  rw [Bool.eq_iff_iff, decide_eq_true_iff, List.any_eq_true, List.mem_flatMap]
  constructor
  · rintro ⟨F, hF, hi⟩
    have h1 := hvis F hF
    unfold seenV at h1
    rw [Option.isSome_map] at h1
    obtain ⟨c, hc⟩ := Option.isSome_iff_exists.1 h1
    exact ⟨(F, c), lookA_mem A F c hc, decide_eq_true hi⟩
  · rintro ⟨p, hp, hi⟩
    refine ⟨p.1, hall p.1 (ht.fits p hp).fok ?_, of_decide_eq_true hi⟩
    unfold seenV
    rw [Option.isSome_map]
    exact lookA_key A p.1 (List.mem_map.2 ⟨p, hp, rfl⟩)
set_option maxRecDepth 100000 in
set_option maxHeartbeats 1000000 in
theorem Amounts_ok (zs : List Int) (v : Value) (w : World) (hv : SlI w v zs) (hj : jugsB zs = true) (res : Sn × Option (List Int)) (hres : srch (padF zs) glN (ssF false zs.length) 28562 (padF []) = some res) :
    Calls Try.prog 20 #[v] w fun e w' => ∃ s, e = .returned (.tuple #[s, .int .i64 0]) ∧ w'.ownsRow w.heap.size 3 1 s (amtL res.1 zs.length 13).length ((amtL res.1 zs.length 13).map encI) ∧ Below w.heap.size w w' := by
  obtain ⟨i0, hi, hz0, hz1, hz2⟩ := info_parts info3
  obtain ⟨hn1, hn4, p0, p1, p2, p3, hp, hjv, b0, b1, b2, b3⟩ := jugs_open hj
  have hfit : FitP (padF zs) (padF []) := by rw [hp]; exact ⟨rfl, fun i hi => by match i, hi with | 0, _ | 1, _ | 2, _ | 3, _ => simp [padF, List.replicate]; omega⟩
  have hst := srch_tree _ _ (lsF false) (mF false zs.length) (lsF_ok false) (by have := mF_ok false zs.length; omega) _ hfit _ res hres
  have HC := Lib.hid (check_any zs v w hv (by omega))
  have e0 : errJ zs = 0 := by unfold errJ; rw [if_pos hj]
  rw [e0] at HC
  have HR := Lib.hid (fun (W : World) (hb : Below w.heap.size w W) => reached_any zs [] v (.slice none 0 0) false W (hv.grow hb) ⟨none, 0, rfl, Nat.le_refl _, .inl rfl⟩ (by simp) hj hfit res hres)
  have HT := Lib.hid hst.1
  obtain ⟨n, hn0⟩ : ∃ n, zs.length = n := ⟨_, rfl⟩
  rw [hn0] at hn1 hn4 ⊢
  obtain ⟨sa, sc, hsv⟩ : ∃ sa sc, v = .slice sa n sc := by obtain ⟨a, c, h, _⟩ := hv; exact ⟨a, c, by rw [h, hn0]⟩
  clear hv hj hp hjv b0 b1 b2 b3 hfit hst hres e0 hn0
  subst hsv
  have hn : n = 1 ∨ n = 2 ∨ n = 3 ∨ n = 4 := by omega
  clear hn1 hn4
  rcases hn with rfl | rfl | rfl | rfl
  · go_enter Try.func20, Try.ntmps20
    go_wp2_with fail
    refine HC.out.mono ?_
    rintro e w1 ⟨rfl, hb⟩
    have HB := Lib.hid hb
    clear hb HC
    have b5 := (Below.refl w1.heap.size w1).alloc (Nat.le_refl _) (.cells #[.bool false, .bool false, .bool false, .bool false, .bool false, .bool false, .bool false, .bool false, .bool false, .bool false, .bool false, .bool false, .bool false] 73)
    have r5 : Row (w1.alloc (.cells #[.bool false, .bool false, .bool false, .bool false, .bool false, .bool false, .bool false, .bool false, .bool false, .bool false, .bool false, .bool false, .bool false] 73)) w1.heap.size 73 (markF []) := Row.new w1 73 _
    have R5 := Lib.hid r5
    have B5 := Lib.hid b5
    have BW5 := Lib.hid (Below.andThen HB.out b5 (Nat.le_refl _))
    have SZ5 := Lib.hid (size_al w1 (.cells #[.bool false, .bool false, .bool false, .bool false, .bool false, .bool false, .bool false, .bool false, .bool false, .bool false, .bool false, .bool false, .bool false] 73))
    clear b5 r5
    go_wp2_with fail
    refine (HR.out _ BW5.out).mono ?_
    rintro e w2 ⟨x, rfl, ⟨b, rfl, hsn⟩, hb⟩
    have HSN := Lib.hid hsn
    have R6 := Lib.hid (R5.out.below hb R5.out.lt)
    have BW6 := Lib.hid (Below.andThen BW5.out hb (Nat.le_refl _))
    have HBL := Lib.hid hb.size
    clear hsn hb R5 BW5 HR B5
    go_wp2_with (at_range; refine wpList_range_seen rfl _ 74 rfl Try.underlying74 b _ _ rfl HSN.out ?_; rintro w3 hrg hgr hsz)
    have hb3 : Below w2.heap.size w2 w3 := ⟨hgr.os, hgr.tape, hgr.output, hgr.size, fun k hk => hgr.block k hk (by simp)⟩
    have R7 := Lib.hid (R6.out.below hb3 R6.out.lt)
    have BW7 := Lib.hid (Below.andThen BW6.out hb3 (Nat.le_refl _))
    have HRG := Lib.hid hrg
    have HBS := Lib.hid HSN.out.lt
    have R6L := Lib.hid R6.out.lt
    have BW7L := Lib.hid (show w.heap.size ≤ w2.heap.size by have := BW6.out.size; omega)
    have HBNE := Lib.hid (show b ≠ w1.heap.size from fun e => by have h1 := hrg.lt.2; exact ne_blocks hrg R7.out e)
    clear hrg hgr hb3 R6 BW6 HSN hsz
    go_wp2_with fail
    go_frame
    go_loopw [] (fun wr => ∃ vis c, Hid (RngAt wr b w2.heap.size res.1.length (seenV res.1) vis c ∧ Row wr w1.heap.size 73 (markF (vis.flatMap (·.take 1))) ∧ Below w.heap.size w wr ∧ ∀ F ∈ vis, (seenV res.1 F).isSome = true)) (fun wr => wr.rangeLeft b w2.heap.size)
    case atStart => exact ⟨[], _, Lib.hid ⟨HRG.out, R7.out, BW7.out, fun F hF => by cases hF⟩⟩
    case round =>
      clear HRG R7 BW7
      obtain ⟨vis, c, HR⟩ := hrel
      go_wp2_with (at_next; refine wpList_next_seen rfl _ rfl b w2.heap.size _ _ vis c rfl HR.out.1 ?_ ?_)
      · intro hall
        have HM := Lib.hid (marks_all HT.out 1 hall HR.out.2.2.2)
        obtain ⟨m, hm⟩ : ∃ m : Nat → Bool, m = fun i : Nat => decide ((i : Int) ∈ vis.flatMap (·.take 1)) := ⟨_, rfl⟩
        have hc0 : ∀ i : Nat, i < 13 → wr.cell? ⟨w1.heap.size, i, none⟩ = some (.bool (m i)) := fun i hi => by rw [HR.out.2.1.cell, markF_get _ i hi, hm]
        rw [← hm] at HM
        have c0 := hc0 0 (by omega)
        have c1 := hc0 1 (by omega)
        have c2 := hc0 2 (by omega)
        have c3 := hc0 3 (by omega)
        have c4 := hc0 4 (by omega)
        have c5 := hc0 5 (by omega)
        have c6 := hc0 6 (by omega)
        have c7 := hc0 7 (by omega)
        have c8 := hc0 8 (by omega)
        have c9 := hc0 9 (by omega)
        have c10 := hc0 10 (by omega)
        have c11 := hc0 11 (by omega)
        have c12 := hc0 12 (by omega)
        have T := Lib.hid HR.out.2.2.1
        have EX := Lib.hid (fun (i : Nat) (hi : i < 13) (W : World) => idx13 m i hi W)
        clear hc0 hm hall HR
        go_wp2_with fail
        go_loopw [9, 36] (fun lv iv wx => ∃ k : Nat, k ≤ 13 ∧ iv = .int .i64 (k : Int) ∧ Hid (wx.ownsRow w.heap.size 3 1 lv (((List.range k).filter m).map (fun i : Nat => (i : Int))).length ((((List.range k).filter m).map (fun i : Nat => (i : Int))).map encI) ∧ Below w.heap.size w wx)) (fun _ iv _ => 13 - (intOf iv).toNat)
        case atStart => exact ⟨0, by omega, rfl, Lib.hid ⟨World.ownsRow_nil _ _ _ _, T.out⟩⟩
        case round =>
          clear T
          obtain ⟨k, hk, rfl, HO⟩ := hrel
          clear c0 c1 c2 c3 c4 c5 c6 c7 c8 c9 c10 c11 c12
          have kw : IntKind.i64.wrap ((k : Int) + 1) = ((k + 1 : Nat) : Int) := by rw [i64_of _ (by omega) (by omega)]; omega
          by_cases hlt : k < 13
          · have hd : decide ((k : Int) < 13) = true := decide_eq_true (by omega)
            have HE := EX.out k hlt
            have hsn := filter_snoc m k
            have hll : ((List.range k).filter m).length ≤ 13 := Nat.le_trans (List.length_filter_le _ _) (by rw [List.length_range]; exact hk)
            rw [← List.length_map (f := fun i : Nat => (i : Int))] at hll
            generalize ((List.range k).filter m).map (fun i : Nat => (i : Int)) = LL at *
            cases hmk : m k
            · rw [hmk, if_neg (by simp), List.append_nil] at hsn
              have HSN := Lib.hid hsn
              rw [hmk] at HE
              clear hsn hmk
              go_wp2_with fail
              go_roundw
              case rel => exact ⟨k + 1, by omega, by simp, by rw [HSN.out]; exact HO⟩
              case measure => simp [intOf]; omega
            · rw [hmk, if_pos rfl] at hsn
              have HSN := Lib.hid hsn
              rw [hmk] at HE
              clear hsn hmk
              go_wp2_with (at_builtin; refine wpList_append_own_at _ rfl _ _ 22 rfl w.heap.size 3 i0 (.int .i64 0) 1 8 Try.underlying22 hi hz0 hz1 hz2 rfl (by decide) _ _ _ rfl (HO.out.1.alloc _) _ 1 1 [encI (k : Int)] rfl rfl (cell_one_at _ _ _ _ (by simp)) (by simp [Value.oneCell', encI]) (by unfold maxLen; omega) (by omega) (Nat.le_trans HO.out.2.size (by simp)) ?_; intro v' w2' hown' hgrow hnil hat; have HR2 := Lib.hid hown'; have HB2 := Lib.hid (own_below HO.out.1 HO.out.2 hgrow); clear hown' hgrow hnil hat)
              go_roundw
              case rel => exact ⟨k + 1, by omega, by simp, by rw [HSN.out]; exact Lib.hid ⟨by simpa using HR2.out, HB2.out⟩⟩
              case measure => simp [intOf]; omega
          · have hd : decide ((k : Int) < 13) = false := decide_eq_false (by omega)
            obtain rfl : k = 13 := by omega
            go_wp2_with fail
            refine bodyPost_ret (v := .tuple #[u9, .int .i64 0]) (by simp [results, Try.results20, go_sem]) rfl ?_
            refine ⟨u9, rfl, ?_, HO.out.2⟩
            have h := HO.out.1
            rw [HM.out] at h
            exact h
      · intro F v4 w4 c4 hF hS hvis hrg4 hlt4 hgr4 hsz4 hen
        have HEN := hen
        obtain ⟨cF, hcF⟩ : ∃ cF, lookA res.1 F = some cF := by
          unfold seenV at hS
          cases hl : lookA res.1 F with
          | none => rw [hl] at hS; cases hS
          | some c => exact ⟨c, rfl⟩
        have hfF := (HT.out.fit hcF).1
        obtain ⟨q0, q1, q2, q3, rfl⟩ := agg4 F hF.1
        simp only [aggI, List.map_cons, List.map_nil, encI] at HEN ⊢
        have HV4 := Lib.hid hfF
        have R4 := Lib.hid (HR.out.2.1.kept hgr4 (fun e => by have := Option.some.inj e; have := R6L.out; omega))
        have HRG4 := Lib.hid hrg4
        have HLT4 := Lib.hid hlt4
        have T4 := Lib.hid (HR.out.2.2.1.grown hgr4 HR.out.2.2.1.size (fun k e => by have := Option.some.inj e; have := BW7L.out; omega))
        have HLF := Lib.hid HR.out.1.left
        have HSZ4 := Lib.hid hsz4
        have HVS := Lib.hid (show ∀ G ∈ [q0, q1, q2, q3] :: vis, (seenV res.1 G).isSome = true from fun G hG => by
          rcases List.mem_cons.1 hG with rfl | hG
          · rw [hS]; rfl
          · exact HR.out.2.2.2 G hG)
        clear hcF hfF hF hS hvis hrg4 hlt4 hgr4 hen HR
        have bF := (Below.refl w4.heap.size w4).alloc (Nat.le_refl _) (.cells #[.int .i64 q0, .int .i64 q1, .int .i64 q2, .int .i64 q3] 77)
        have rF := Row.new w4 77 [.int .i64 q0, .int .i64 q1, .int .i64 q2, .int .i64 q3]
        have RF := Lib.hid rF
        have R5 := Lib.hid (R4.out.below bF R4.out.lt)
        have HRG5 := Lib.hid (HRG4.out.grow bF)
        have T5 := Lib.hid (Below.andThen T4.out bF (Nat.le_refl _))
        clear bF rF
        have hwF := RF.out.lt
        go_wp2_with fail
        have HRF := Lib.hid (show Row (w4.alloc (.cells #[.int .i64 q0, .int .i64 q1, .int .i64 q2, .int .i64 q3] 77)) wr.heap.size 77 [.int .i64 q0, .int .i64 q1, .int .i64 q2, .int .i64 q3] by rw [← HSZ4.out]; exact RF.out)
        have HBW := Lib.hid (show w2.heap.size < wr.heap.size by rw [← HSZ4.out]; exact HRG4.out.lt.1)
        generalize hbf : wr.heap.size = BF at *
        clear hbf RF R4 HRG4 T4 hsz4 hwF
        go_loopw [28] (fun iv wx => ∃ k : Nat, k ≤ 1 ∧ iv = .int .i64 (k : Int) ∧ Hid (RngAt wx b w2.heap.size res.1.length (seenV res.1) ([q0, q1, q2, q3] :: vis) c4 ∧ Row wx BF 77 [.int .i64 q0, .int .i64 q1, .int .i64 q2, .int .i64 q3] ∧ Row wx w1.heap.size 73 (markF (([q0, q1, q2, q3].take k) ++ vis.flatMap (·.take 1))) ∧ Below w.heap.size w wx)) (fun iv _ => 1 - (intOf iv).toNat)
        case atStart => exact ⟨0, by omega, rfl, Lib.hid ⟨HRG5.out, HRF.out, R5.out, T5.out⟩⟩
        case round =>
          clear HRG5 HRF R5 T5
          obtain ⟨k, hk, rfl, HI⟩ := hrel
          have kw : IntKind.i64.wrap ((k : Int) + 1) = ((k + 1 : Nat) : Int) := by rw [i64_of _ (by omega) (by omega)]; omega
          by_cases hlt : k < 1
          · have hd : decide ((k : Int) < 1) = true := decide_eq_true (by omega)
            obtain ⟨qa, hqa, hqb⟩ : ∃ qa : Nat, [q0, q1, q2, q3][k]? = some (qa : Int) ∧ qa < 13 := by
              have h1 := HV4.out.2 k (by omega)
              have h2 : k < [q0, q1, q2, q3].length := by simp; omega
              rw [getD_lt h2] at h1
              exact ⟨[q0, q1, q2, q3][k].toNat, by rw [List.getElem?_eq_getElem h2]; congr 1; omega, by omega⟩
            have ck : wr.cell? ⟨BF, k, none⟩ = some (.int .i64 (qa : Int)) := by
              rw [HI.out.2.1.cell k, show ([.int .i64 q0, .int .i64 q1, .int .i64 q2, .int .i64 q3] : List Value) = [q0, q1, q2, q3].map encI from rfl, List.getElem?_map, hqa]; rfl
            have cm : wr.cell? ⟨w1.heap.size, qa, none⟩ = some (.bool (decide ((qa : Int) ∈ ([q0, q1, q2, q3].take k) ++ vis.flatMap (·.take 1)))) := by
              rw [HI.out.2.2.1.cell qa]; exact markF_get _ qa hqb
            have fm := frozen_of_row wr w1.heap.size qa _ _ HI.out.2.2.1
            have htk : markF (([q0, q1, q2, q3].take (k + 1)) ++ vis.flatMap (·.take 1)) = (markF (([q0, q1, q2, q3].take k) ++ vis.flatMap (·.take 1))).set qa (.bool true) := by
              rw [markF_set]
              refine markF_congr fun a _ => ?_
              rw [List.take_add_one, hqa]
              simp only [Option.toList_some, List.mem_append, List.mem_cons, List.not_mem_nil, or_false]
              constructor
              · rintro ((h | h) | h)
                · exact .inr (.inl h)
                · exact .inl h
                · exact .inr (.inr h)
              · rintro (h | h | h)
                · exact .inl (.inr h)
                · exact .inl (.inl h)
                · exact .inr h
            have HTK := Lib.hid htk
            generalize decide ((qa : Int) ∈ ([q0, q1, q2, q3].take k) ++ vis.flatMap (·.take 1)) = mb at *
            clear htk hqa
            go_wp2_with fail
            go_roundw
            case rel =>
              have G := one_set wr w1.heap.size qa (.bool true)
              refine ⟨k + 1, by omega, by simp, Lib.hid ⟨HI.out.1.kept G (fun e => by have := Option.some.inj e; have := HBNE.out; omega) (fun e => by have := Option.some.inj e; have := R6L.out; omega), HI.out.2.1.kept G (fun e => by have := Option.some.inj e; have := R6L.out; have := HBW.out; omega), ?_, HI.out.2.2.2.grown G HI.out.2.2.2.size (fun k e => by have := Option.some.inj e; have := HB.out.size; omega)⟩⟩
              rw [HTK.out]
              exact HI.out.2.2.1.set qa (.bool true)
            case measure => simp [intOf]; omega
          · have hd : decide ((k : Int) < 1) = false := decide_eq_false (by omega)
            obtain rfl : k = 1 := by omega
            go_wp2_with fail
            go_roundw
            case rel => exact ⟨[q0, q1, q2, q3] :: vis, c4, Lib.hid ⟨HI.out.1, HI.out.2.2.1, HI.out.2.2.2, HVS.out⟩⟩
            case measure => rw [HI.out.1.left, HLF.out]; exact HLT4.out
  · go_enter Try.func20, Try.ntmps20
    go_wp2_with fail
    refine HC.out.mono ?_
    rintro e w1 ⟨rfl, hb⟩
    have HB := Lib.hid hb
    clear hb HC
    have b5 := (Below.refl w1.heap.size w1).alloc (Nat.le_refl _) (.cells #[.bool false, .bool false, .bool false, .bool false, .bool false, .bool false, .bool false, .bool false, .bool false, .bool false, .bool false, .bool false, .bool false] 73)
    have r5 : Row (w1.alloc (.cells #[.bool false, .bool false, .bool false, .bool false, .bool false, .bool false, .bool false, .bool false, .bool false, .bool false, .bool false, .bool false, .bool false] 73)) w1.heap.size 73 (markF []) := Row.new w1 73 _
    have R5 := Lib.hid r5
    have B5 := Lib.hid b5
    have BW5 := Lib.hid (Below.andThen HB.out b5 (Nat.le_refl _))
    have SZ5 := Lib.hid (size_al w1 (.cells #[.bool false, .bool false, .bool false, .bool false, .bool false, .bool false, .bool false, .bool false, .bool false, .bool false, .bool false, .bool false, .bool false] 73))
    clear b5 r5
    go_wp2_with fail
    refine (HR.out _ BW5.out).mono ?_
    rintro e w2 ⟨x, rfl, ⟨b, rfl, hsn⟩, hb⟩
    have HSN := Lib.hid hsn
    have R6 := Lib.hid (R5.out.below hb R5.out.lt)
    have BW6 := Lib.hid (Below.andThen BW5.out hb (Nat.le_refl _))
    have HBL := Lib.hid hb.size
    clear hsn hb R5 BW5 HR B5
    go_wp2_with (at_range; refine wpList_range_seen rfl _ 74 rfl Try.underlying74 b _ _ rfl HSN.out ?_; rintro w3 hrg hgr hsz)
    have hb3 : Below w2.heap.size w2 w3 := ⟨hgr.os, hgr.tape, hgr.output, hgr.size, fun k hk => hgr.block k hk (by simp)⟩
    have R7 := Lib.hid (R6.out.below hb3 R6.out.lt)
    have BW7 := Lib.hid (Below.andThen BW6.out hb3 (Nat.le_refl _))
    have HRG := Lib.hid hrg
    have HBS := Lib.hid HSN.out.lt
    have R6L := Lib.hid R6.out.lt
    have BW7L := Lib.hid (show w.heap.size ≤ w2.heap.size by have := BW6.out.size; omega)
    have HBNE := Lib.hid (show b ≠ w1.heap.size from fun e => by have h1 := hrg.lt.2; exact ne_blocks hrg R7.out e)
    clear hrg hgr hb3 R6 BW6 HSN hsz
    go_wp2_with fail
    go_frame
    go_loopw [] (fun wr => ∃ vis c, Hid (RngAt wr b w2.heap.size res.1.length (seenV res.1) vis c ∧ Row wr w1.heap.size 73 (markF (vis.flatMap (·.take 2))) ∧ Below w.heap.size w wr ∧ ∀ F ∈ vis, (seenV res.1 F).isSome = true)) (fun wr => wr.rangeLeft b w2.heap.size)
    case atStart => exact ⟨[], _, Lib.hid ⟨HRG.out, R7.out, BW7.out, fun F hF => by cases hF⟩⟩
    case round =>
      clear HRG R7 BW7
      obtain ⟨vis, c, HR⟩ := hrel
      go_wp2_with (at_next; refine wpList_next_seen rfl _ rfl b w2.heap.size _ _ vis c rfl HR.out.1 ?_ ?_)
      · intro hall
        have HM := Lib.hid (marks_all HT.out 2 hall HR.out.2.2.2)
        obtain ⟨m, hm⟩ : ∃ m : Nat → Bool, m = fun i : Nat => decide ((i : Int) ∈ vis.flatMap (·.take 2)) := ⟨_, rfl⟩
        have hc0 : ∀ i : Nat, i < 13 → wr.cell? ⟨w1.heap.size, i, none⟩ = some (.bool (m i)) := fun i hi => by rw [HR.out.2.1.cell, markF_get _ i hi, hm]
        rw [← hm] at HM
        have c0 := hc0 0 (by omega)
        have c1 := hc0 1 (by omega)
        have c2 := hc0 2 (by omega)
        have c3 := hc0 3 (by omega)
        have c4 := hc0 4 (by omega)
        have c5 := hc0 5 (by omega)
        have c6 := hc0 6 (by omega)
        have c7 := hc0 7 (by omega)
        have c8 := hc0 8 (by omega)
        have c9 := hc0 9 (by omega)
        have c10 := hc0 10 (by omega)
        have c11 := hc0 11 (by omega)
        have c12 := hc0 12 (by omega)
        have T := Lib.hid HR.out.2.2.1
        have EX := Lib.hid (fun (i : Nat) (hi : i < 13) (W : World) => idx13 m i hi W)
        clear hc0 hm hall HR
        go_wp2_with fail
        go_loopw [9, 36] (fun lv iv wx => ∃ k : Nat, k ≤ 13 ∧ iv = .int .i64 (k : Int) ∧ Hid (wx.ownsRow w.heap.size 3 1 lv (((List.range k).filter m).map (fun i : Nat => (i : Int))).length ((((List.range k).filter m).map (fun i : Nat => (i : Int))).map encI) ∧ Below w.heap.size w wx)) (fun _ iv _ => 13 - (intOf iv).toNat)
        case atStart => exact ⟨0, by omega, rfl, Lib.hid ⟨World.ownsRow_nil _ _ _ _, T.out⟩⟩
        case round =>
          clear T
          obtain ⟨k, hk, rfl, HO⟩ := hrel
          clear c0 c1 c2 c3 c4 c5 c6 c7 c8 c9 c10 c11 c12
          have kw : IntKind.i64.wrap ((k : Int) + 1) = ((k + 1 : Nat) : Int) := by rw [i64_of _ (by omega) (by omega)]; omega
          by_cases hlt : k < 13
          · have hd : decide ((k : Int) < 13) = true := decide_eq_true (by omega)
            have HE := EX.out k hlt
            have hsn := filter_snoc m k
            have hll : ((List.range k).filter m).length ≤ 13 := Nat.le_trans (List.length_filter_le _ _) (by rw [List.length_range]; exact hk)
            rw [← List.length_map (f := fun i : Nat => (i : Int))] at hll
            generalize ((List.range k).filter m).map (fun i : Nat => (i : Int)) = LL at *
            cases hmk : m k
            · rw [hmk, if_neg (by simp), List.append_nil] at hsn
              have HSN := Lib.hid hsn
              rw [hmk] at HE
              clear hsn hmk
              go_wp2_with fail
              go_roundw
              case rel => exact ⟨k + 1, by omega, by simp, by rw [HSN.out]; exact HO⟩
              case measure => simp [intOf]; omega
            · rw [hmk, if_pos rfl] at hsn
              have HSN := Lib.hid hsn
              rw [hmk] at HE
              clear hsn hmk
              go_wp2_with (at_builtin; refine wpList_append_own_at _ rfl _ _ 22 rfl w.heap.size 3 i0 (.int .i64 0) 1 8 Try.underlying22 hi hz0 hz1 hz2 rfl (by decide) _ _ _ rfl (HO.out.1.alloc _) _ 1 1 [encI (k : Int)] rfl rfl (cell_one_at _ _ _ _ (by simp)) (by simp [Value.oneCell', encI]) (by unfold maxLen; omega) (by omega) (Nat.le_trans HO.out.2.size (by simp)) ?_; intro v' w2' hown' hgrow hnil hat; have HR2 := Lib.hid hown'; have HB2 := Lib.hid (own_below HO.out.1 HO.out.2 hgrow); clear hown' hgrow hnil hat)
              go_roundw
              case rel => exact ⟨k + 1, by omega, by simp, by rw [HSN.out]; exact Lib.hid ⟨by simpa using HR2.out, HB2.out⟩⟩
              case measure => simp [intOf]; omega
          · have hd : decide ((k : Int) < 13) = false := decide_eq_false (by omega)
            obtain rfl : k = 13 := by omega
            go_wp2_with fail
            refine bodyPost_ret (v := .tuple #[u9, .int .i64 0]) (by simp [results, Try.results20, go_sem]) rfl ?_
            refine ⟨u9, rfl, ?_, HO.out.2⟩
            have h := HO.out.1
            rw [HM.out] at h
            exact h
      · intro F v4 w4 c4 hF hS hvis hrg4 hlt4 hgr4 hsz4 hen
        have HEN := hen
        obtain ⟨cF, hcF⟩ : ∃ cF, lookA res.1 F = some cF := by
          unfold seenV at hS
          cases hl : lookA res.1 F with
          | none => rw [hl] at hS; cases hS
          | some c => exact ⟨c, rfl⟩
        have hfF := (HT.out.fit hcF).1
        obtain ⟨q0, q1, q2, q3, rfl⟩ := agg4 F hF.1
        simp only [aggI, List.map_cons, List.map_nil, encI] at HEN ⊢
        have HV4 := Lib.hid hfF
        have R4 := Lib.hid (HR.out.2.1.kept hgr4 (fun e => by have := Option.some.inj e; have := R6L.out; omega))
        have HRG4 := Lib.hid hrg4
        have HLT4 := Lib.hid hlt4
        have T4 := Lib.hid (HR.out.2.2.1.grown hgr4 HR.out.2.2.1.size (fun k e => by have := Option.some.inj e; have := BW7L.out; omega))
        have HLF := Lib.hid HR.out.1.left
        have HSZ4 := Lib.hid hsz4
        have HVS := Lib.hid (show ∀ G ∈ [q0, q1, q2, q3] :: vis, (seenV res.1 G).isSome = true from fun G hG => by
          rcases List.mem_cons.1 hG with rfl | hG
          · rw [hS]; rfl
          · exact HR.out.2.2.2 G hG)
        clear hcF hfF hF hS hvis hrg4 hlt4 hgr4 hen HR
        have bF := (Below.refl w4.heap.size w4).alloc (Nat.le_refl _) (.cells #[.int .i64 q0, .int .i64 q1, .int .i64 q2, .int .i64 q3] 77)
        have rF := Row.new w4 77 [.int .i64 q0, .int .i64 q1, .int .i64 q2, .int .i64 q3]
        have RF := Lib.hid rF
        have R5 := Lib.hid (R4.out.below bF R4.out.lt)
        have HRG5 := Lib.hid (HRG4.out.grow bF)
        have T5 := Lib.hid (Below.andThen T4.out bF (Nat.le_refl _))
        clear bF rF
        have hwF := RF.out.lt
        go_wp2_with fail
        have HRF := Lib.hid (show Row (w4.alloc (.cells #[.int .i64 q0, .int .i64 q1, .int .i64 q2, .int .i64 q3] 77)) wr.heap.size 77 [.int .i64 q0, .int .i64 q1, .int .i64 q2, .int .i64 q3] by rw [← HSZ4.out]; exact RF.out)
        have HBW := Lib.hid (show w2.heap.size < wr.heap.size by rw [← HSZ4.out]; exact HRG4.out.lt.1)
        generalize hbf : wr.heap.size = BF at *
        clear hbf RF R4 HRG4 T4 hsz4 hwF
        go_loopw [28] (fun iv wx => ∃ k : Nat, k ≤ 2 ∧ iv = .int .i64 (k : Int) ∧ Hid (RngAt wx b w2.heap.size res.1.length (seenV res.1) ([q0, q1, q2, q3] :: vis) c4 ∧ Row wx BF 77 [.int .i64 q0, .int .i64 q1, .int .i64 q2, .int .i64 q3] ∧ Row wx w1.heap.size 73 (markF (([q0, q1, q2, q3].take k) ++ vis.flatMap (·.take 2))) ∧ Below w.heap.size w wx)) (fun iv _ => 2 - (intOf iv).toNat)
        case atStart => exact ⟨0, by omega, rfl, Lib.hid ⟨HRG5.out, HRF.out, R5.out, T5.out⟩⟩
        case round =>
          clear HRG5 HRF R5 T5
          obtain ⟨k, hk, rfl, HI⟩ := hrel
          have kw : IntKind.i64.wrap ((k : Int) + 1) = ((k + 1 : Nat) : Int) := by rw [i64_of _ (by omega) (by omega)]; omega
          by_cases hlt : k < 2
          · have hd : decide ((k : Int) < 2) = true := decide_eq_true (by omega)
            obtain ⟨qa, hqa, hqb⟩ : ∃ qa : Nat, [q0, q1, q2, q3][k]? = some (qa : Int) ∧ qa < 13 := by
              have h1 := HV4.out.2 k (by omega)
              have h2 : k < [q0, q1, q2, q3].length := by simp; omega
              rw [getD_lt h2] at h1
              exact ⟨[q0, q1, q2, q3][k].toNat, by rw [List.getElem?_eq_getElem h2]; congr 1; omega, by omega⟩
            have ck : wr.cell? ⟨BF, k, none⟩ = some (.int .i64 (qa : Int)) := by
              rw [HI.out.2.1.cell k, show ([.int .i64 q0, .int .i64 q1, .int .i64 q2, .int .i64 q3] : List Value) = [q0, q1, q2, q3].map encI from rfl, List.getElem?_map, hqa]; rfl
            have cm : wr.cell? ⟨w1.heap.size, qa, none⟩ = some (.bool (decide ((qa : Int) ∈ ([q0, q1, q2, q3].take k) ++ vis.flatMap (·.take 2)))) := by
              rw [HI.out.2.2.1.cell qa]; exact markF_get _ qa hqb
            have fm := frozen_of_row wr w1.heap.size qa _ _ HI.out.2.2.1
            have htk : markF (([q0, q1, q2, q3].take (k + 1)) ++ vis.flatMap (·.take 2)) = (markF (([q0, q1, q2, q3].take k) ++ vis.flatMap (·.take 2))).set qa (.bool true) := by
              rw [markF_set]
              refine markF_congr fun a _ => ?_
              rw [List.take_add_one, hqa]
              simp only [Option.toList_some, List.mem_append, List.mem_cons, List.not_mem_nil, or_false]
              constructor
              · rintro ((h | h) | h)
                · exact .inr (.inl h)
                · exact .inl h
                · exact .inr (.inr h)
              · rintro (h | h | h)
                · exact .inl (.inr h)
                · exact .inl (.inl h)
                · exact .inr h
            have HTK := Lib.hid htk
            generalize decide ((qa : Int) ∈ ([q0, q1, q2, q3].take k) ++ vis.flatMap (·.take 2)) = mb at *
            clear htk hqa
            go_wp2_with fail
            go_roundw
            case rel =>
              have G := one_set wr w1.heap.size qa (.bool true)
              refine ⟨k + 1, by omega, by simp, Lib.hid ⟨HI.out.1.kept G (fun e => by have := Option.some.inj e; have := HBNE.out; omega) (fun e => by have := Option.some.inj e; have := R6L.out; omega), HI.out.2.1.kept G (fun e => by have := Option.some.inj e; have := R6L.out; have := HBW.out; omega), ?_, HI.out.2.2.2.grown G HI.out.2.2.2.size (fun k e => by have := Option.some.inj e; have := HB.out.size; omega)⟩⟩
              rw [HTK.out]
              exact HI.out.2.2.1.set qa (.bool true)
            case measure => simp [intOf]; omega
          · have hd : decide ((k : Int) < 2) = false := decide_eq_false (by omega)
            obtain rfl : k = 2 := by omega
            go_wp2_with fail
            go_roundw
            case rel => exact ⟨[q0, q1, q2, q3] :: vis, c4, Lib.hid ⟨HI.out.1, HI.out.2.2.1, HI.out.2.2.2, HVS.out⟩⟩
            case measure => rw [HI.out.1.left, HLF.out]; exact HLT4.out
  · go_enter Try.func20, Try.ntmps20
    go_wp2_with fail
    refine HC.out.mono ?_
    rintro e w1 ⟨rfl, hb⟩
    have HB := Lib.hid hb
    clear hb HC
    have b5 := (Below.refl w1.heap.size w1).alloc (Nat.le_refl _) (.cells #[.bool false, .bool false, .bool false, .bool false, .bool false, .bool false, .bool false, .bool false, .bool false, .bool false, .bool false, .bool false, .bool false] 73)
    have r5 : Row (w1.alloc (.cells #[.bool false, .bool false, .bool false, .bool false, .bool false, .bool false, .bool false, .bool false, .bool false, .bool false, .bool false, .bool false, .bool false] 73)) w1.heap.size 73 (markF []) := Row.new w1 73 _
    have R5 := Lib.hid r5
    have B5 := Lib.hid b5
    have BW5 := Lib.hid (Below.andThen HB.out b5 (Nat.le_refl _))
    have SZ5 := Lib.hid (size_al w1 (.cells #[.bool false, .bool false, .bool false, .bool false, .bool false, .bool false, .bool false, .bool false, .bool false, .bool false, .bool false, .bool false, .bool false] 73))
    clear b5 r5
    go_wp2_with fail
    refine (HR.out _ BW5.out).mono ?_
    rintro e w2 ⟨x, rfl, ⟨b, rfl, hsn⟩, hb⟩
    have HSN := Lib.hid hsn
    have R6 := Lib.hid (R5.out.below hb R5.out.lt)
    have BW6 := Lib.hid (Below.andThen BW5.out hb (Nat.le_refl _))
    have HBL := Lib.hid hb.size
    clear hsn hb R5 BW5 HR B5
    go_wp2_with (at_range; refine wpList_range_seen rfl _ 74 rfl Try.underlying74 b _ _ rfl HSN.out ?_; rintro w3 hrg hgr hsz)
    have hb3 : Below w2.heap.size w2 w3 := ⟨hgr.os, hgr.tape, hgr.output, hgr.size, fun k hk => hgr.block k hk (by simp)⟩
    have R7 := Lib.hid (R6.out.below hb3 R6.out.lt)
    have BW7 := Lib.hid (Below.andThen BW6.out hb3 (Nat.le_refl _))
    have HRG := Lib.hid hrg
    have HBS := Lib.hid HSN.out.lt
    have R6L := Lib.hid R6.out.lt
    have BW7L := Lib.hid (show w.heap.size ≤ w2.heap.size by have := BW6.out.size; omega)
    have HBNE := Lib.hid (show b ≠ w1.heap.size from fun e => by have h1 := hrg.lt.2; exact ne_blocks hrg R7.out e)
    clear hrg hgr hb3 R6 BW6 HSN hsz
    go_wp2_with fail
    go_frame
    go_loopw [] (fun wr => ∃ vis c, Hid (RngAt wr b w2.heap.size res.1.length (seenV res.1) vis c ∧ Row wr w1.heap.size 73 (markF (vis.flatMap (·.take 3))) ∧ Below w.heap.size w wr ∧ ∀ F ∈ vis, (seenV res.1 F).isSome = true)) (fun wr => wr.rangeLeft b w2.heap.size)
    case atStart => exact ⟨[], _, Lib.hid ⟨HRG.out, R7.out, BW7.out, fun F hF => by cases hF⟩⟩
    case round =>
      clear HRG R7 BW7
      obtain ⟨vis, c, HR⟩ := hrel
      go_wp2_with (at_next; refine wpList_next_seen rfl _ rfl b w2.heap.size _ _ vis c rfl HR.out.1 ?_ ?_)
      · intro hall
        have HM := Lib.hid (marks_all HT.out 3 hall HR.out.2.2.2)
        obtain ⟨m, hm⟩ : ∃ m : Nat → Bool, m = fun i : Nat => decide ((i : Int) ∈ vis.flatMap (·.take 3)) := ⟨_, rfl⟩
        have hc0 : ∀ i : Nat, i < 13 → wr.cell? ⟨w1.heap.size, i, none⟩ = some (.bool (m i)) := fun i hi => by rw [HR.out.2.1.cell, markF_get _ i hi, hm]
        rw [← hm] at HM
        have c0 := hc0 0 (by omega)
        have c1 := hc0 1 (by omega)
        have c2 := hc0 2 (by omega)
        have c3 := hc0 3 (by omega)
        have c4 := hc0 4 (by omega)
        have c5 := hc0 5 (by omega)
        have c6 := hc0 6 (by omega)
        have c7 := hc0 7 (by omega)
        have c8 := hc0 8 (by omega)
        have c9 := hc0 9 (by omega)
        have c10 := hc0 10 (by omega)
        have c11 := hc0 11 (by omega)
        have c12 := hc0 12 (by omega)
        have T := Lib.hid HR.out.2.2.1
        have EX := Lib.hid (fun (i : Nat) (hi : i < 13) (W : World) => idx13 m i hi W)
        clear hc0 hm hall HR
        go_wp2_with fail
        go_loopw [9, 36] (fun lv iv wx => ∃ k : Nat, k ≤ 13 ∧ iv = .int .i64 (k : Int) ∧ Hid (wx.ownsRow w.heap.size 3 1 lv (((List.range k).filter m).map (fun i : Nat => (i : Int))).length ((((List.range k).filter m).map (fun i : Nat => (i : Int))).map encI) ∧ Below w.heap.size w wx)) (fun _ iv _ => 13 - (intOf iv).toNat)
        case atStart => exact ⟨0, by omega, rfl, Lib.hid ⟨World.ownsRow_nil _ _ _ _, T.out⟩⟩
        case round =>
          clear T
          obtain ⟨k, hk, rfl, HO⟩ := hrel
          clear c0 c1 c2 c3 c4 c5 c6 c7 c8 c9 c10 c11 c12
          have kw : IntKind.i64.wrap ((k : Int) + 1) = ((k + 1 : Nat) : Int) := by rw [i64_of _ (by omega) (by omega)]; omega
          by_cases hlt : k < 13
          · have hd : decide ((k : Int) < 13) = true := decide_eq_true (by omega)
            have HE := EX.out k hlt
            have hsn := filter_snoc m k
            have hll : ((List.range k).filter m).length ≤ 13 := Nat.le_trans (List.length_filter_le _ _) (by rw [List.length_range]; exact hk)
            rw [← List.length_map (f := fun i : Nat => (i : Int))] at hll
            generalize ((List.range k).filter m).map (fun i : Nat => (i : Int)) = LL at *
            cases hmk : m k
            · rw [hmk, if_neg (by simp), List.append_nil] at hsn
              have HSN := Lib.hid hsn
              rw [hmk] at HE
              clear hsn hmk
              go_wp2_with fail
              go_roundw
              case rel => exact ⟨k + 1, by omega, by simp, by rw [HSN.out]; exact HO⟩
              case measure => simp [intOf]; omega
            · rw [hmk, if_pos rfl] at hsn
              have HSN := Lib.hid hsn
              rw [hmk] at HE
              clear hsn hmk
              go_wp2_with (at_builtin; refine wpList_append_own_at _ rfl _ _ 22 rfl w.heap.size 3 i0 (.int .i64 0) 1 8 Try.underlying22 hi hz0 hz1 hz2 rfl (by decide) _ _ _ rfl (HO.out.1.alloc _) _ 1 1 [encI (k : Int)] rfl rfl (cell_one_at _ _ _ _ (by simp)) (by simp [Value.oneCell', encI]) (by unfold maxLen; omega) (by omega) (Nat.le_trans HO.out.2.size (by simp)) ?_; intro v' w2' hown' hgrow hnil hat; have HR2 := Lib.hid hown'; have HB2 := Lib.hid (own_below HO.out.1 HO.out.2 hgrow); clear hown' hgrow hnil hat)
              go_roundw
              case rel => exact ⟨k + 1, by omega, by simp, by rw [HSN.out]; exact Lib.hid ⟨by simpa using HR2.out, HB2.out⟩⟩
              case measure => simp [intOf]; omega
          · have hd : decide ((k : Int) < 13) = false := decide_eq_false (by omega)
            obtain rfl : k = 13 := by omega
            go_wp2_with fail
            refine bodyPost_ret (v := .tuple #[u9, .int .i64 0]) (by simp [results, Try.results20, go_sem]) rfl ?_
            refine ⟨u9, rfl, ?_, HO.out.2⟩
            have h := HO.out.1
            rw [HM.out] at h
            exact h
      · intro F v4 w4 c4 hF hS hvis hrg4 hlt4 hgr4 hsz4 hen
        have HEN := hen
        obtain ⟨cF, hcF⟩ : ∃ cF, lookA res.1 F = some cF := by
          unfold seenV at hS
          cases hl : lookA res.1 F with
          | none => rw [hl] at hS; cases hS
          | some c => exact ⟨c, rfl⟩
        have hfF := (HT.out.fit hcF).1
        obtain ⟨q0, q1, q2, q3, rfl⟩ := agg4 F hF.1
        simp only [aggI, List.map_cons, List.map_nil, encI] at HEN ⊢
        have HV4 := Lib.hid hfF
        have R4 := Lib.hid (HR.out.2.1.kept hgr4 (fun e => by have := Option.some.inj e; have := R6L.out; omega))
        have HRG4 := Lib.hid hrg4
        have HLT4 := Lib.hid hlt4
        have T4 := Lib.hid (HR.out.2.2.1.grown hgr4 HR.out.2.2.1.size (fun k e => by have := Option.some.inj e; have := BW7L.out; omega))
        have HLF := Lib.hid HR.out.1.left
        have HSZ4 := Lib.hid hsz4
        have HVS := Lib.hid (show ∀ G ∈ [q0, q1, q2, q3] :: vis, (seenV res.1 G).isSome = true from fun G hG => by
          rcases List.mem_cons.1 hG with rfl | hG
          · rw [hS]; rfl
          · exact HR.out.2.2.2 G hG)
        clear hcF hfF hF hS hvis hrg4 hlt4 hgr4 hen HR
        have bF := (Below.refl w4.heap.size w4).alloc (Nat.le_refl _) (.cells #[.int .i64 q0, .int .i64 q1, .int .i64 q2, .int .i64 q3] 77)
        have rF := Row.new w4 77 [.int .i64 q0, .int .i64 q1, .int .i64 q2, .int .i64 q3]
        have RF := Lib.hid rF
        have R5 := Lib.hid (R4.out.below bF R4.out.lt)
        have HRG5 := Lib.hid (HRG4.out.grow bF)
        have T5 := Lib.hid (Below.andThen T4.out bF (Nat.le_refl _))
        clear bF rF
        have hwF := RF.out.lt
        go_wp2_with fail
        have HRF := Lib.hid (show Row (w4.alloc (.cells #[.int .i64 q0, .int .i64 q1, .int .i64 q2, .int .i64 q3] 77)) wr.heap.size 77 [.int .i64 q0, .int .i64 q1, .int .i64 q2, .int .i64 q3] by rw [← HSZ4.out]; exact RF.out)
        have HBW := Lib.hid (show w2.heap.size < wr.heap.size by rw [← HSZ4.out]; exact HRG4.out.lt.1)
        generalize hbf : wr.heap.size = BF at *
        clear hbf RF R4 HRG4 T4 hsz4 hwF
        go_loopw [28] (fun iv wx => ∃ k : Nat, k ≤ 3 ∧ iv = .int .i64 (k : Int) ∧ Hid (RngAt wx b w2.heap.size res.1.length (seenV res.1) ([q0, q1, q2, q3] :: vis) c4 ∧ Row wx BF 77 [.int .i64 q0, .int .i64 q1, .int .i64 q2, .int .i64 q3] ∧ Row wx w1.heap.size 73 (markF (([q0, q1, q2, q3].take k) ++ vis.flatMap (·.take 3))) ∧ Below w.heap.size w wx)) (fun iv _ => 3 - (intOf iv).toNat)
        case atStart => exact ⟨0, by omega, rfl, Lib.hid ⟨HRG5.out, HRF.out, R5.out, T5.out⟩⟩
        case round =>
          clear HRG5 HRF R5 T5
          obtain ⟨k, hk, rfl, HI⟩ := hrel
          have kw : IntKind.i64.wrap ((k : Int) + 1) = ((k + 1 : Nat) : Int) := by rw [i64_of _ (by omega) (by omega)]; omega
          by_cases hlt : k < 3
          · have hd : decide ((k : Int) < 3) = true := decide_eq_true (by omega)
            obtain ⟨qa, hqa, hqb⟩ : ∃ qa : Nat, [q0, q1, q2, q3][k]? = some (qa : Int) ∧ qa < 13 := by
              have h1 := HV4.out.2 k (by omega)
              have h2 : k < [q0, q1, q2, q3].length := by simp; omega
              rw [getD_lt h2] at h1
              exact ⟨[q0, q1, q2, q3][k].toNat, by rw [List.getElem?_eq_getElem h2]; congr 1; omega, by omega⟩
            have ck : wr.cell? ⟨BF, k, none⟩ = some (.int .i64 (qa : Int)) := by
              rw [HI.out.2.1.cell k, show ([.int .i64 q0, .int .i64 q1, .int .i64 q2, .int .i64 q3] : List Value) = [q0, q1, q2, q3].map encI from rfl, List.getElem?_map, hqa]; rfl
            have cm : wr.cell? ⟨w1.heap.size, qa, none⟩ = some (.bool (decide ((qa : Int) ∈ ([q0, q1, q2, q3].take k) ++ vis.flatMap (·.take 3)))) := by
              rw [HI.out.2.2.1.cell qa]; exact markF_get _ qa hqb
            have fm := frozen_of_row wr w1.heap.size qa _ _ HI.out.2.2.1
            have htk : markF (([q0, q1, q2, q3].take (k + 1)) ++ vis.flatMap (·.take 3)) = (markF (([q0, q1, q2, q3].take k) ++ vis.flatMap (·.take 3))).set qa (.bool true) := by
              rw [markF_set]
              refine markF_congr fun a _ => ?_
              rw [List.take_add_one, hqa]
              simp only [Option.toList_some, List.mem_append, List.mem_cons, List.not_mem_nil, or_false]
              constructor
              · rintro ((h | h) | h)
                · exact .inr (.inl h)
                · exact .inl h
                · exact .inr (.inr h)
              · rintro (h | h | h)
                · exact .inl (.inr h)
                · exact .inl (.inl h)
                · exact .inr h
            have HTK := Lib.hid htk
            generalize decide ((qa : Int) ∈ ([q0, q1, q2, q3].take k) ++ vis.flatMap (·.take 3)) = mb at *
            clear htk hqa
            go_wp2_with fail
            go_roundw
            case rel =>
              have G := one_set wr w1.heap.size qa (.bool true)
              refine ⟨k + 1, by omega, by simp, Lib.hid ⟨HI.out.1.kept G (fun e => by have := Option.some.inj e; have := HBNE.out; omega) (fun e => by have := Option.some.inj e; have := R6L.out; omega), HI.out.2.1.kept G (fun e => by have := Option.some.inj e; have := R6L.out; have := HBW.out; omega), ?_, HI.out.2.2.2.grown G HI.out.2.2.2.size (fun k e => by have := Option.some.inj e; have := HB.out.size; omega)⟩⟩
              rw [HTK.out]
              exact HI.out.2.2.1.set qa (.bool true)
            case measure => simp [intOf]; omega
          · have hd : decide ((k : Int) < 3) = false := decide_eq_false (by omega)
            obtain rfl : k = 3 := by omega
            go_wp2_with fail
            go_roundw
            case rel => exact ⟨[q0, q1, q2, q3] :: vis, c4, Lib.hid ⟨HI.out.1, HI.out.2.2.1, HI.out.2.2.2, HVS.out⟩⟩
            case measure => rw [HI.out.1.left, HLF.out]; exact HLT4.out
  · go_enter Try.func20, Try.ntmps20
    go_wp2_with fail
    refine HC.out.mono ?_
    rintro e w1 ⟨rfl, hb⟩
    have HB := Lib.hid hb
    clear hb HC
    have b5 := (Below.refl w1.heap.size w1).alloc (Nat.le_refl _) (.cells #[.bool false, .bool false, .bool false, .bool false, .bool false, .bool false, .bool false, .bool false, .bool false, .bool false, .bool false, .bool false, .bool false] 73)
    have r5 : Row (w1.alloc (.cells #[.bool false, .bool false, .bool false, .bool false, .bool false, .bool false, .bool false, .bool false, .bool false, .bool false, .bool false, .bool false, .bool false] 73)) w1.heap.size 73 (markF []) := Row.new w1 73 _
    have R5 := Lib.hid r5
    have B5 := Lib.hid b5
    have BW5 := Lib.hid (Below.andThen HB.out b5 (Nat.le_refl _))
    have SZ5 := Lib.hid (size_al w1 (.cells #[.bool false, .bool false, .bool false, .bool false, .bool false, .bool false, .bool false, .bool false, .bool false, .bool false, .bool false, .bool false, .bool false] 73))
    clear b5 r5
    go_wp2_with fail
    refine (HR.out _ BW5.out).mono ?_
    rintro e w2 ⟨x, rfl, ⟨b, rfl, hsn⟩, hb⟩
    have HSN := Lib.hid hsn
    have R6 := Lib.hid (R5.out.below hb R5.out.lt)
    have BW6 := Lib.hid (Below.andThen BW5.out hb (Nat.le_refl _))
    have HBL := Lib.hid hb.size
    clear hsn hb R5 BW5 HR B5
    go_wp2_with (at_range; refine wpList_range_seen rfl _ 74 rfl Try.underlying74 b _ _ rfl HSN.out ?_; rintro w3 hrg hgr hsz)
    have hb3 : Below w2.heap.size w2 w3 := ⟨hgr.os, hgr.tape, hgr.output, hgr.size, fun k hk => hgr.block k hk (by simp)⟩
    have R7 := Lib.hid (R6.out.below hb3 R6.out.lt)
    have BW7 := Lib.hid (Below.andThen BW6.out hb3 (Nat.le_refl _))
    have HRG := Lib.hid hrg
    have HBS := Lib.hid HSN.out.lt
    have R6L := Lib.hid R6.out.lt
    have BW7L := Lib.hid (show w.heap.size ≤ w2.heap.size by have := BW6.out.size; omega)
    have HBNE := Lib.hid (show b ≠ w1.heap.size from fun e => by have h1 := hrg.lt.2; exact ne_blocks hrg R7.out e)
    clear hrg hgr hb3 R6 BW6 HSN hsz
    go_wp2_with fail
    go_frame
    go_loopw [] (fun wr => ∃ vis c, Hid (RngAt wr b w2.heap.size res.1.length (seenV res.1) vis c ∧ Row wr w1.heap.size 73 (markF (vis.flatMap (·.take 4))) ∧ Below w.heap.size w wr ∧ ∀ F ∈ vis, (seenV res.1 F).isSome = true)) (fun wr => wr.rangeLeft b w2.heap.size)
    case atStart => exact ⟨[], _, Lib.hid ⟨HRG.out, R7.out, BW7.out, fun F hF => by cases hF⟩⟩
    case round =>
      clear HRG R7 BW7
      obtain ⟨vis, c, HR⟩ := hrel
      go_wp2_with (at_next; refine wpList_next_seen rfl _ rfl b w2.heap.size _ _ vis c rfl HR.out.1 ?_ ?_)
      · intro hall
        have HM := Lib.hid (marks_all HT.out 4 hall HR.out.2.2.2)
        obtain ⟨m, hm⟩ : ∃ m : Nat → Bool, m = fun i : Nat => decide ((i : Int) ∈ vis.flatMap (·.take 4)) := ⟨_, rfl⟩
        have hc0 : ∀ i : Nat, i < 13 → wr.cell? ⟨w1.heap.size, i, none⟩ = some (.bool (m i)) := fun i hi => by rw [HR.out.2.1.cell, markF_get _ i hi, hm]
        rw [← hm] at HM
        have c0 := hc0 0 (by omega)
        have c1 := hc0 1 (by omega)
        have c2 := hc0 2 (by omega)
        have c3 := hc0 3 (by omega)
        have c4 := hc0 4 (by omega)
        have c5 := hc0 5 (by omega)
        have c6 := hc0 6 (by omega)
        have c7 := hc0 7 (by omega)
        have c8 := hc0 8 (by omega)
        have c9 := hc0 9 (by omega)
        have c10 := hc0 10 (by omega)
        have c11 := hc0 11 (by omega)
        have c12 := hc0 12 (by omega)
        have T := Lib.hid HR.out.2.2.1
        have EX := Lib.hid (fun (i : Nat) (hi : i < 13) (W : World) => idx13 m i hi W)
        clear hc0 hm hall HR
        go_wp2_with fail
        go_loopw [9, 36] (fun lv iv wx => ∃ k : Nat, k ≤ 13 ∧ iv = .int .i64 (k : Int) ∧ Hid (wx.ownsRow w.heap.size 3 1 lv (((List.range k).filter m).map (fun i : Nat => (i : Int))).length ((((List.range k).filter m).map (fun i : Nat => (i : Int))).map encI) ∧ Below w.heap.size w wx)) (fun _ iv _ => 13 - (intOf iv).toNat)
        case atStart => exact ⟨0, by omega, rfl, Lib.hid ⟨World.ownsRow_nil _ _ _ _, T.out⟩⟩
        case round =>
          clear T
          obtain ⟨k, hk, rfl, HO⟩ := hrel
          clear c0 c1 c2 c3 c4 c5 c6 c7 c8 c9 c10 c11 c12
          have kw : IntKind.i64.wrap ((k : Int) + 1) = ((k + 1 : Nat) : Int) := by rw [i64_of _ (by omega) (by omega)]; omega
          by_cases hlt : k < 13
          · have hd : decide ((k : Int) < 13) = true := decide_eq_true (by omega)
            have HE := EX.out k hlt
            have hsn := filter_snoc m k
            have hll : ((List.range k).filter m).length ≤ 13 := Nat.le_trans (List.length_filter_le _ _) (by rw [List.length_range]; exact hk)
            rw [← List.length_map (f := fun i : Nat => (i : Int))] at hll
            generalize ((List.range k).filter m).map (fun i : Nat => (i : Int)) = LL at *
            cases hmk : m k
            · rw [hmk, if_neg (by simp), List.append_nil] at hsn
              have HSN := Lib.hid hsn
              rw [hmk] at HE
              clear hsn hmk
              go_wp2_with fail
              go_roundw
              case rel => exact ⟨k + 1, by omega, by simp, by rw [HSN.out]; exact HO⟩
              case measure => simp [intOf]; omega
            · rw [hmk, if_pos rfl] at hsn
              have HSN := Lib.hid hsn
              rw [hmk] at HE
              clear hsn hmk
              go_wp2_with (at_builtin; refine wpList_append_own_at _ rfl _ _ 22 rfl w.heap.size 3 i0 (.int .i64 0) 1 8 Try.underlying22 hi hz0 hz1 hz2 rfl (by decide) _ _ _ rfl (HO.out.1.alloc _) _ 1 1 [encI (k : Int)] rfl rfl (cell_one_at _ _ _ _ (by simp)) (by simp [Value.oneCell', encI]) (by unfold maxLen; omega) (by omega) (Nat.le_trans HO.out.2.size (by simp)) ?_; intro v' w2' hown' hgrow hnil hat; have HR2 := Lib.hid hown'; have HB2 := Lib.hid (own_below HO.out.1 HO.out.2 hgrow); clear hown' hgrow hnil hat)
              go_roundw
              case rel => exact ⟨k + 1, by omega, by simp, by rw [HSN.out]; exact Lib.hid ⟨by simpa using HR2.out, HB2.out⟩⟩
              case measure => simp [intOf]; omega
          · have hd : decide ((k : Int) < 13) = false := decide_eq_false (by omega)
            obtain rfl : k = 13 := by omega
            go_wp2_with fail
            refine bodyPost_ret (v := .tuple #[u9, .int .i64 0]) (by simp [results, Try.results20, go_sem]) rfl ?_
            refine ⟨u9, rfl, ?_, HO.out.2⟩
            have h := HO.out.1
            rw [HM.out] at h
            exact h
      · intro F v4 w4 c4 hF hS hvis hrg4 hlt4 hgr4 hsz4 hen
        have HEN := hen
        obtain ⟨cF, hcF⟩ : ∃ cF, lookA res.1 F = some cF := by
          unfold seenV at hS
          cases hl : lookA res.1 F with
          | none => rw [hl] at hS; cases hS
          | some c => exact ⟨c, rfl⟩
        have hfF := (HT.out.fit hcF).1
        obtain ⟨q0, q1, q2, q3, rfl⟩ := agg4 F hF.1
        simp only [aggI, List.map_cons, List.map_nil, encI] at HEN ⊢
        have HV4 := Lib.hid hfF
        have R4 := Lib.hid (HR.out.2.1.kept hgr4 (fun e => by have := Option.some.inj e; have := R6L.out; omega))
        have HRG4 := Lib.hid hrg4
        have HLT4 := Lib.hid hlt4
        have T4 := Lib.hid (HR.out.2.2.1.grown hgr4 HR.out.2.2.1.size (fun k e => by have := Option.some.inj e; have := BW7L.out; omega))
        have HLF := Lib.hid HR.out.1.left
        have HSZ4 := Lib.hid hsz4
        have HVS := Lib.hid (show ∀ G ∈ [q0, q1, q2, q3] :: vis, (seenV res.1 G).isSome = true from fun G hG => by
          rcases List.mem_cons.1 hG with rfl | hG
          · rw [hS]; rfl
          · exact HR.out.2.2.2 G hG)
        clear hcF hfF hF hS hvis hrg4 hlt4 hgr4 hen HR
        have bF := (Below.refl w4.heap.size w4).alloc (Nat.le_refl _) (.cells #[.int .i64 q0, .int .i64 q1, .int .i64 q2, .int .i64 q3] 77)
        have rF := Row.new w4 77 [.int .i64 q0, .int .i64 q1, .int .i64 q2, .int .i64 q3]
        have RF := Lib.hid rF
        have R5 := Lib.hid (R4.out.below bF R4.out.lt)
        have HRG5 := Lib.hid (HRG4.out.grow bF)
        have T5 := Lib.hid (Below.andThen T4.out bF (Nat.le_refl _))
        clear bF rF
        have hwF := RF.out.lt
        go_wp2_with fail
        have HRF := Lib.hid (show Row (w4.alloc (.cells #[.int .i64 q0, .int .i64 q1, .int .i64 q2, .int .i64 q3] 77)) wr.heap.size 77 [.int .i64 q0, .int .i64 q1, .int .i64 q2, .int .i64 q3] by rw [← HSZ4.out]; exact RF.out)
        have HBW := Lib.hid (show w2.heap.size < wr.heap.size by rw [← HSZ4.out]; exact HRG4.out.lt.1)
        generalize hbf : wr.heap.size = BF at *
        clear hbf RF R4 HRG4 T4 hsz4 hwF
        go_loopw [28] (fun iv wx => ∃ k : Nat, k ≤ 4 ∧ iv = .int .i64 (k : Int) ∧ Hid (RngAt wx b w2.heap.size res.1.length (seenV res.1) ([q0, q1, q2, q3] :: vis) c4 ∧ Row wx BF 77 [.int .i64 q0, .int .i64 q1, .int .i64 q2, .int .i64 q3] ∧ Row wx w1.heap.size 73 (markF (([q0, q1, q2, q3].take k) ++ vis.flatMap (·.take 4))) ∧ Below w.heap.size w wx)) (fun iv _ => 4 - (intOf iv).toNat)
        case atStart => exact ⟨0, by omega, rfl, Lib.hid ⟨HRG5.out, HRF.out, R5.out, T5.out⟩⟩
        case round =>
          clear HRG5 HRF R5 T5
          obtain ⟨k, hk, rfl, HI⟩ := hrel
          have kw : IntKind.i64.wrap ((k : Int) + 1) = ((k + 1 : Nat) : Int) := by rw [i64_of _ (by omega) (by omega)]; omega
          by_cases hlt : k < 4
          · have hd : decide ((k : Int) < 4) = true := decide_eq_true (by omega)
            obtain ⟨qa, hqa, hqb⟩ : ∃ qa : Nat, [q0, q1, q2, q3][k]? = some (qa : Int) ∧ qa < 13 := by
              have h1 := HV4.out.2 k (by omega)
              have h2 : k < [q0, q1, q2, q3].length := by simp; omega
              rw [getD_lt h2] at h1
              exact ⟨[q0, q1, q2, q3][k].toNat, by rw [List.getElem?_eq_getElem h2]; congr 1; omega, by omega⟩
            have ck : wr.cell? ⟨BF, k, none⟩ = some (.int .i64 (qa : Int)) := by
              rw [HI.out.2.1.cell k, show ([.int .i64 q0, .int .i64 q1, .int .i64 q2, .int .i64 q3] : List Value) = [q0, q1, q2, q3].map encI from rfl, List.getElem?_map, hqa]; rfl
            have cm : wr.cell? ⟨w1.heap.size, qa, none⟩ = some (.bool (decide ((qa : Int) ∈ ([q0, q1, q2, q3].take k) ++ vis.flatMap (·.take 4)))) := by
              rw [HI.out.2.2.1.cell qa]; exact markF_get _ qa hqb
            have fm := frozen_of_row wr w1.heap.size qa _ _ HI.out.2.2.1
            have htk : markF (([q0, q1, q2, q3].take (k + 1)) ++ vis.flatMap (·.take 4)) = (markF (([q0, q1, q2, q3].take k) ++ vis.flatMap (·.take 4))).set qa (.bool true) := by
              rw [markF_set]
              refine markF_congr fun a _ => ?_
              rw [List.take_add_one, hqa]
              simp only [Option.toList_some, List.mem_append, List.mem_cons, List.not_mem_nil, or_false]
              constructor
              · rintro ((h | h) | h)
                · exact .inr (.inl h)
                · exact .inl h
                · exact .inr (.inr h)
              · rintro (h | h | h)
                · exact .inl (.inr h)
                · exact .inl (.inl h)
                · exact .inr h
            have HTK := Lib.hid htk
            generalize decide ((qa : Int) ∈ ([q0, q1, q2, q3].take k) ++ vis.flatMap (·.take 4)) = mb at *
            clear htk hqa
            go_wp2_with fail
            go_roundw
            case rel =>
              have G := one_set wr w1.heap.size qa (.bool true)
              refine ⟨k + 1, by omega, by simp, Lib.hid ⟨HI.out.1.kept G (fun e => by have := Option.some.inj e; have := HBNE.out; omega) (fun e => by have := Option.some.inj e; have := R6L.out; omega), HI.out.2.1.kept G (fun e => by have := Option.some.inj e; have := R6L.out; have := HBW.out; omega), ?_, HI.out.2.2.2.grown G HI.out.2.2.2.size (fun k e => by have := Option.some.inj e; have := HB.out.size; omega)⟩⟩
              rw [HTK.out]
              exact HI.out.2.2.1.set qa (.bool true)
            case measure => simp [intOf]; omega
          · have hd : decide ((k : Int) < 4) = false := decide_eq_false (by omega)
            obtain rfl : k = 4 := by omega
            go_wp2_with fail
            go_roundw
            case rel => exact ⟨[q0, q1, q2, q3] :: vis, c4, Lib.hid ⟨HI.out.1, HI.out.2.2.1, HI.out.2.2.2, HVS.out⟩⟩
            case measure => rw [HI.out.1.left, HLF.out]; exact HLT4.out
end Go.Proofs.Ytlamppplnojpbaa
namespace Go.Proofs.Ytlamppplnojpbaa
open Go.RowKit Go.Shelf
attribute [local go_sem] Oper.semAt_some
section
variable {F : Fence} {n : Nat} {P : Program} {Q : Exit → Act → World → Prop}
theorem wpOpIn_of_list {ops : Array Oper} {i : Nat} {o : Oper} {K : Act → World → Prop} {a : Act} {w : World} (ho : ops[i]? = some o) (h : wpListIn F n P ops (Exit.then K Q) [o] a w) : wpOpIn F n P ops Q i K a w := by
  unfold wpOpIn
  simp only [ho]
  unfold wpListIn at h
  split
  · rename_i hw
    rw [if_pos hw] at h
    exact uponIn_then h
  · rename_i hw
    rw [if_neg hw] at h; exact h
/-- a region whose order is open, by an invariant over what has come up -/
theorem wpIn_region_inv {id : Nat} {a : Act} {w : World} {l : List Oper} (hm : P.follows .mixedOrders = true) (hd : waitsB l = true) (I : List Bool → Act → World → Prop) (h0 : I (List.replicate l.length false) a w.drew)
    (hstep : ∀ (i : Nat) (o : Oper) (bs : List Bool) (a : Act) (w : World), l[i]? = some o → I bs a w → bs.length = l.length → bs[i]? = some false → (∀ e ∈ o.after, Region.binds .any e = true → bs.getD e.on false = true) →
      wpOpIn F n P l.toArray Q i (fun a' w' => I (bs.set i true) a' w') a w)
    (hend : ∀ a w, I (List.replicate l.length true) a w → Q .normal a w) : (Code.region id l.toArray true).wpIn F n P Q a w := by
  refine wpIn_region_any hm ?_
  have key : ∀ (fuel : Nat) (bs : List Bool) (a : Act) (w : World), bs.length = l.length → (bs.filter (! ·)).length ≤ fuel → I bs a w → wpAnyIn F n P .any l.toArray Q fuel bs.toArray a w := by
    intro fuel
    induction fuel with
    | zero =>
      intro bs a w hl hf hI
      have hall : bs = List.replicate l.length true := by
        rw [List.eq_replicate_iff]
        refine ⟨hl, fun b hb => ?_⟩
        cases b with
        | true => rfl
        | false =>
          have : false ∈ bs.filter (! ·) := List.mem_filter.2 ⟨hb, rfl⟩
          have := List.length_pos_of_mem this; omega
      subst hall
      refine ⟨?_, hend a w hI⟩
      cases hr : Region.ready .any l.toArray (List.replicate l.length true).toArray with
      | nil => rfl
      | cons j js =>
        have hj : j ∈ Region.ready .any l.toArray (List.replicate l.length true).toArray := by rw [hr]; exact List.mem_cons_self
        obtain ⟨h1, o, h2, _⟩ := mem_ready.1 hj
        have hlt : j < l.length := by have := (List.getElem?_eq_some_iff.1 (by simpa using h2 : l[j]? = some o)).1; exact this
        simp [Array.getD, hlt] at h1
    | succ fuel ih =>
      intro bs a w hl hf hI
      have hset : ∀ (i : Nat), (bs.toArray.setIfInBounds i true) = (bs.set i true).toArray := fun i => by simp
      by_cases hall : bs = List.replicate l.length true
      · subst hall
        refine ⟨fun _ => hend a w hI, fun j hj => ?_⟩
        obtain ⟨h1, o, h2, _⟩ := mem_ready.1 hj
        have hlt : j < l.length := by have := (List.getElem?_eq_some_iff.1 (by simpa using h2 : l[j]? = some o)).1; exact this
        simp [Array.getD, hlt] at h1
      · refine ⟨fun hr => ?_, fun j hj => ?_⟩
        · exfalso
          have hex : ∃ b ∈ bs, (!b) = true := by
            false_or_by_contra
            rename_i hno
            refine hall (List.eq_replicate_iff.2 ⟨hl, fun b hb => ?_⟩)
            cases b with
            | true => rfl
            | false => exact absurd ⟨false, hb, rfl⟩ hno
          have hlt : bs.findIdx (! ·) < bs.length := List.findIdx_lt_length.2 hex
          have hf0 : bs[bs.findIdx (! ·)] = false := by have := List.findIdx_getElem (w := hlt); simpa using this
          have hlt2 : bs.findIdx (! ·) < l.length := by omega
          have hmem : bs.findIdx (! ·) ∈ Region.ready .any l.toArray bs.toArray := by
            refine mem_ready.2 ⟨by simp [Array.getD, hlt, hf0], l[bs.findIdx (! ·)], by simp [hlt2], fun e he _ => ?_⟩
            unfold waitsB at hd
            rw [List.all_eq_true] at hd
            have h1 := hd _ (List.mem_range.2 hlt2)
            rw [List.getElem?_eq_getElem hlt2] at h1
            simp only [Option.map_some, Option.getD_some] at h1
            have h2 := (Array.all_eq_true'.1 h1) e he
            have h3 := of_decide_eq_true h2
            have h4 : e.on < bs.length := by omega
            have h5 := List.not_of_lt_findIdx h3
            simp [Array.getD, h4]
            simpa using h5
          rw [hr] at hmem; cases hmem
        · obtain ⟨h1, o, h2, h3⟩ := mem_ready.1 hj
          have h2' : l[j]? = some o := by simpa using h2
          have hlt : j < l.length := (List.getElem?_eq_some_iff.1 h2').1
          have hb : bs[j]? = some false := by
            rw [List.getElem?_eq_getElem (by omega)]
            simp [Array.getD, show j < bs.length by omega] at h1
            rw [h1]
          refine wpOpIn_mono (fun a' w' h => ?_) (hstep j o bs a w h2' hI hl hb (fun e he hb => by have := h3 e he hb; rw [List.getD_eq_getElem?_getD]; simp only [Array.getD, List.size_toArray] at this; split at this <;> simp_all))
          rw [hset]
          have := filter_set bs j hb
          exact ih _ _ _ (by simpa using hl) (by omega) h
  have := key l.length (List.replicate l.length false) a w.drew (by simp) (by simp) h0
  simpa using this
/-- the same, with the slots that the region writes told apart -/
theorem wpIn_region_slots {id : Nat} {a : Act} {w : World} {l : List Oper} (hm : P.follows .mixedOrders = true) (hd : waitsB l = true) (slots : List Nat) (J : List Bool → List Value → World → Prop)
    (h0 : ∃ vs, a = putAll a slots vs ∧ J (List.replicate l.length false) vs w.drew)
    (hstep : ∀ (i : Nat) (o : Oper) (bs : List Bool) (vs : List Value) (w : World) (K : Act → World → Prop), l[i]? = some o → J bs vs w → bs.length = l.length → bs[i]? = some false → (∀ e ∈ o.after, Region.binds .any e = true → bs.getD e.on false = true) →
      (∀ vs' w', J (bs.set i true) vs' w' → K (putAll a slots vs') w') → wpOpIn F n P l.toArray Q i K (putAll a slots vs) w)
    (hend : ∀ vs w, J (List.replicate l.length true) vs w → Q .normal (putAll a slots vs) w) : (Code.region id l.toArray true).wpIn F n P Q a w := by
  refine wpIn_region_inv hm hd (fun bs a' w' => ∃ vs, a' = putAll a slots vs ∧ J bs vs w') h0 ?_ ?_
  · rintro i o bs a' w' ho ⟨vs, rfl, hJ⟩ hl hb hw
    exact hstep i o bs vs w' _ ho hJ hl hb hw (fun vs' w'' h => ⟨vs', rfl, h⟩)
  · rintro a' w' ⟨vs, rfl, hJ⟩
    exact hend vs w' hJ
end
section
variable {F : Fence} {n : Nat} {P : Program} {Q : Exit → Act → World → Prop}
/-- a region whose order is open and whose operations each put one value, whatever has come up besides what they wait for -/
theorem wpIn_region_det {id : Nat} {a : Act} {w : World} {l : List Oper} (hm : P.follows .mixedOrders = true) (hd : waitsB l = true) (slots : List Nat) (val : List Value) (C : World → Prop) (hvl : val.length = l.length)
    (h0 : ∃ vs, a = putAll a slots vs ∧ vs.length = l.length) (hC : C w.drew)
    (hstep : ∀ (i : Nat) (o : Oper) (vs : List Value) (w : World) (K : Act → World → Prop), l[i]? = some o → C w → vs.length = l.length → (∀ e ∈ o.after, Region.binds .any e = true → vs[e.on]? = val[e.on]?) →
      (∀ w', C w' → K (putAll a slots (vs.set i (val.getD i undef))) w') → wpOpIn F n P l.toArray Q i K (putAll a slots vs) w)
    (hend : ∀ w, C w → Q .normal (putAll a slots val) w) : (Code.region id l.toArray true).wpIn F n P Q a w := by
  obtain ⟨vs0, e0, el0⟩ := h0
  refine wpIn_region_slots hm hd slots (fun (bs : List Bool) (vs : List Value) w => C w ∧ vs.length = l.length ∧ ∀ i : Nat, bs[i]? = some true → vs[i]? = val[i]?) ⟨vs0, e0, hC, el0, fun i hi => ?_⟩ ?_ ?_
  · rw [List.getElem?_replicate] at hi
    split at hi <;> simp at hi
  · rintro i o bs vs w K ho ⟨hc, hl, hv⟩ hbl hb hw hK
    refine hstep i o vs w K ho hc hl (fun e he hbe => ?_) (fun w' hc' => hK _ _ ⟨hc', by rw [List.length_set]; exact hl, fun j hj => ?_⟩)
    · have h := hw e he hbe
      rw [List.getD_eq_getElem?_getD] at h
      refine hv _ ?_
      cases h2 : bs[e.on]? with
      | none => rw [h2] at h; simp at h
      | some b => rw [h2] at h; simp at h; rw [h]
    · by_cases hij : i = j
      · subst hij
        have hlt : i < l.length := (List.getElem?_eq_some_iff.1 ho).1
        rw [List.getElem?_set_self (by omega), List.getD_eq_getElem?_getD, List.getElem?_eq_getElem (by omega)]; rfl
      · rw [List.getElem?_set_ne hij] at hj ⊢
        exact hv j hj
  · rintro vs w ⟨hc, hl, hv⟩
    have : vs = val := by
      refine List.ext_getElem? fun i => ?_
      by_cases hi : i < l.length
      · exact hv i (by rw [List.getElem?_replicate, if_pos hi])
      · rw [List.getElem?_eq_none (by omega), List.getElem?_eq_none (by omega)]
    subst this
    exact hend w hc
end
section
variable {F : Fence} {n : Nat} {P : Program} {Q : Exit → Act → World → Prop}
/-- each operation of a region puts its value, whatever has come up besides what it waits for -/
def detSteps (F : Fence) (n : Nat) (P : Program) (Q : Exit → Act → World → Prop) (ops : Array Oper) (a : Act) (slots : List Nat) (val : List Value) (C : World → Prop) (len : Nat) : List Oper → Nat → Prop
  | [], _ => True
  | o :: rest, i => (∀ (vs : List Value) (w : World) (K : Act → World → Prop), C w → vs.length = len → (∀ e ∈ o.after, Region.binds .any e = true → vs[e.on]? = val[e.on]?) →
      (∀ w', C w' → K (putAll a slots (vs.set i (val.getD i undef))) w') → wpListIn F n P ops (Exit.then K Q) [o] (putAll a slots vs) w) ∧ detSteps F n P Q ops a slots val C len rest (i + 1)
theorem detSteps_get {ops : Array Oper} {a : Act} {slots : List Nat} {val : List Value} {C : World → Prop} {len : Nat} : ∀ {l : List Oper} {k i : Nat} {o : Oper}, detSteps F n P Q ops a slots val C len l k → l[i]? = some o →
    ∀ (vs : List Value) (w : World) (K : Act → World → Prop), C w → vs.length = len → (∀ e ∈ o.after, Region.binds .any e = true → vs[e.on]? = val[e.on]?) →
      (∀ w', C w' → K (putAll a slots (vs.set (k + i) (val.getD (k + i) undef))) w') → wpListIn F n P ops (Exit.then K Q) [o] (putAll a slots vs) w
  | [], _, _, _, _, h => by simp at h
  | o :: rest, k, 0, o', hd, h => by
    simp at h; subst h
    exact hd.1
  | o :: rest, k, i + 1, o', hd, h => by
    have := detSteps_get (l := rest) (k := k + 1) (i := i) hd.2 (by simpa using h)
    rw [show k + 1 + i = k + (i + 1) by omega] at this
    exact this
theorem wpIn_region_det2 {id : Nat} {a : Act} {w : World} {l : List Oper} (hm : P.follows .mixedOrders = true) (hd : waitsB l = true) (slots : List Nat) (val : List Value) (C : World → Prop) (hvl : val.length = l.length)
    (h0 : ∃ vs, a = putAll a slots vs ∧ vs.length = l.length) (hC : C w.drew) (len : Nat) (hlen : l.length = len)
    (hsteps : detSteps F n P Q l.toArray a slots val C len l 0)
    (hend : ∀ w, C w → Q .normal (putAll a slots val) w) : (Code.region id l.toArray true).wpIn F n P Q a w := by
  refine wpIn_region_det hm hd slots val C hvl h0 hC ?_ hend
  intro i o vs w K ho hc hl hw hK
  refine wpOpIn_of_list (by simpa using ho) ?_
  have := detSteps_get hsteps ho vs w K hc (by omega) hw (by simpa using hK)
  exact this
end
theorem len6 {vs : List Value} (h : vs.length = 6) : ∃ x0 x1 x2 x3 x4 x5, vs = [x0, x1, x2, x3, x4, x5] := by
  obtain ⟨x0, r0, rfl, h0⟩ := len_cons h
  obtain ⟨x1, r1, rfl, h1⟩ := len_cons h0
  obtain ⟨x2, r2, rfl, h2⟩ := len_cons h1
  obtain ⟨x3, r3, rfl, h3⟩ := len_cons h2
  obtain ⟨x4, r4, rfl, h4⟩ := len_cons h3
  obtain ⟨x5, r5, rfl, h5⟩ := len_cons h4
  obtain rfl := List.eq_nil_of_length_eq_zero h5
  exact ⟨_, _, _, _, _, _, rfl⟩
/-- the steps that change a filling -/
def stepsF (P F : List Int) (ss : List (Int × Int)) : List (Int × Int) := ss.filter fun x => !decide (afterF P F x.1 x.2 = F)
theorem stepsF_snoc (P F : List Int) (pre : List (Int × Int)) (x : Int × Int) : stepsF P F (pre ++ [x]) = if afterF P F x.1 x.2 = F then stepsF P F pre else stepsF P F pre ++ [x] := by
  unfold stepsF
  rw [List.filter_append]
  by_cases h : afterF P F x.1 x.2 = F
  · rw [if_pos h]; simp [h]
  · rw [if_neg h]; simp [h]
theorem asq_keep {w W W2 : World} {pre : List (Int × Int)} {v v' : Value} {x : Int × Int} (h : Asq w pre v W) (hg : (W.alloc (.cells #[.int .i64 x.1, .int .i64 x.2] 48)).grownBy W2 v.ownBlock) :
    ∀ g, g < W.heap.size → g ≠ w.heap.size → (∀ cs, W.heap[g]? ≠ some (.cells cs 48 (0, 0))) → (W2.setCell ⟨w.heap.size, 0, none⟩ v').heap[g]? = W.heap[g]? := fun g hlt h1 h2 => by
  have ba := (Below.refl W.heap.size W).alloc (Nat.le_refl _) (.cells #[.int .i64 x.1, .int .i64 x.2] 48)
  have G := one_set W2 w.heap.size 0 v'
  have hsz : W.heap.size + 1 ≤ W2.heap.size := by have := hg.size; rw [size_al] at this; exact this
  rw [G.block g (by omega) (fun e => by have := Option.some.inj e; omega), hg.block g (by rw [size_al]; omega) (fun e => by
    rcases h.own.2 with ⟨rfl, _⟩ | ⟨g', cap, cur, rfl, hb', hh, _⟩
    · cases e
    · cases e; exact h2 _ hh), ba.block g hlt]
theorem asq_row {w W W2 : World} {pre : List (Int × Int)} {v v' : Value} {x : Int × Int} (h : Asq w pre v W) (hg : (W.alloc (.cells #[.int .i64 x.1, .int .i64 x.2] 48)).grownBy W2 v.ownBlock) {g : Nat} {E : TypeId} {vs : List Value} (hr : Row W g E vs) (hE : E ≠ 48) (h27 : E ≠ 27) :
    Row (W2.setCell ⟨w.heap.size, 0, none⟩ v') g E vs := by
  refine (asq_keep h hg g hr.lt (fun e => ?_) (fun cs hc => ?_)).trans hr
  · subst e
    have h2 : W.heap[w.heap.size]? = some (.cells [v].toArray 27 (0, 0)) := h.row
    rw [show W.heap[w.heap.size]? = _ from hr] at h2; cases h2; exact h27 rfl
  · rw [show W.heap[g]? = _ from hr] at hc; cases hc; exact hE rfl
set_option maxRecDepth 100000 in
set_option maxHeartbeats 400000 in
theorem Steps_err (zs fs : List Int) (v u1 : Value) (cl : Bool) (w : World) (hv : SlI w v zs) (hl : zs.length ≤ 1000000) (h1 : SlI w u1 fs) (k : Int) (he : errA zs [fs] = k) (hk : k ≠ 0) :
    Calls Try.prog 25 #[v, u1, .bool cl] w fun e w' => e = .returned (.tuple #[.slice none 0 0, .int .i64 k]) ∧ Below w.heap.size w w' := by
  have HC := Lib.hid (check1 hv hl h1)
  rw [he] at HC
  have hd : (k != 0) = true := by simp; exact hk
  obtain ⟨a1, c1, e1⟩ : ∃ a1 c1, u1 = .slice a1 fs.length c1 := by obtain ⟨a, c, h, _⟩ := h1; exact ⟨a, c, h⟩
  clear hv hl he h1
  generalize fs.length = k1 at *
  subst e1
  refine callsIn_wide.1 (callsIn_of_wp_marks (F := Fence.wide) (n := 4) Try.func25 rfl trivial ?_ rfl)
  simp only [Try.ntmps25, List.size_toArray, List.length_cons, List.length_nil, Nat.reduceAdd, Nat.reduceSub, Array.replicate_succ, Array.replicate_zero, List.push_toArray, List.append_toArray, List.nil_append, List.cons_append]
  gi_wp2_with fail
  refine ⟨trivial, (callsIn_wide.2 HC.out).mono ?_⟩
  rintro e w1 ⟨rfl, hb⟩
  have HB := Lib.hid hb
  clear hb HC
  gi_wp2_with fail
  refine leaves_marks (B := w1.heap.size) (fun X => Below w.heap.size w X) (lasts_below _ _ _ HB.out.size (Nat.le_refl _)) ?_ [] _ (marks_nil _ _) HB.out
  intro X hX
  refine ⟨.tuple #[.slice none 0 0, .int .i64 k], ?_, rfl, hX⟩
  simp [results, Try.results25, go_sem]
set_option maxRecDepth 100000 in
set_option maxHeartbeats 2000000 in
theorem Steps_ok (zs fs : List Int) (v u1 : Value) (cl : Bool) (w : World) (hv : SlI w v zs) (hl : zs.length ≤ 1000000) (h1 : SlI w u1 fs) (he : errA zs [fs] = 0) :
    Calls Try.prog 25 #[v, u1, .bool cl] w fun e w' => ∃ s, e = .returned (.tuple #[s, .int .i64 0]) ∧ OwnP w' w.heap.size s (stepsF (padF zs) (padF fs) (ssF cl zs.length)) ∧ Below w.heap.size w w' := by
  obtain ⟨hj, hfits⟩ := errA_ok he
  obtain ⟨hfit, hd1, hfl⟩ := fits_pad hj (hfits fs (by simp))
  have HC := Lib.hid (check1 hv hl h1)
  rw [he] at HC
  obtain ⟨hz1, hz4, p0, p1, p2, p3, hp, hjv, b0, b1, b2, b3⟩ := jugs_open hj
  obtain ⟨f0, f1, f2, f3, hf⟩ := agg4 (padF fs) (padF_len fs)
  rw [hp, hf] at hfit ⊢
  obtain ⟨n, hn0⟩ : ∃ n, zs.length = n := ⟨_, rfl⟩
  rw [hn0] at hjv ⊢
  have hn : n ≤ 4 := by omega
  unfold ssF
  have hst := stepsV_any (n : Int) p0 p1 p2 p3 cl
  rw [show (if cl = true then (0 : Int) else -1) = lsF cl from rfl] at hst
  have HST := Lib.hid hst
  have HLS := Lib.hid (lsF_ok cl)
  have HM := Lib.hid (mF_ok cl n)
  generalize lsF cl = ls at *
  generalize mF cl n = m at *
  have HFIT := Lib.hid hfit
  have HJ0 := Lib.hid (fun (W : World) (hb : Below w.heap.size w W) => jugsOf_any zs v W (hv.grow hb) hz4)
  have HF0 := Lib.hid (fun (W : World) (hb : Below w.heap.size w W) => fillingOf_any fs u1 W (h1.grow hb) hfl)
  rw [hjv] at HJ0
  rw [hf] at HF0
  simp only [aggI, List.map_cons, List.map_nil, encI] at HF0
  obtain ⟨a1, c1, e1⟩ : ∃ a1 c1, u1 = .slice a1 fs.length c1 := by obtain ⟨a, c, h, _⟩ := h1; exact ⟨a, c, h⟩
  obtain ⟨i0, hi, hz0, hz1', hz2⟩ := info_parts info48
  clear hp hj hjv b0 b1 b2 b3 h1 hz1 hz4 hn0 hst hfit hv hfits hfl hf he hl hd1
  generalize fs.length = k1 at *
  subst e1
  refine callsIn_wide.1 (callsIn_of_wp_marks (F := Fence.wide) (n := 4) Try.func25 rfl trivial ?_ rfl)
  simp only [Try.ntmps25, List.size_toArray, List.length_cons, List.length_nil, Nat.reduceAdd, Nat.reduceSub, Array.replicate_succ, Array.replicate_zero, List.push_toArray, List.append_toArray, List.nil_append, List.cons_append]
  gi_wp2_with fail
  refine ⟨trivial, (callsIn_wide.2 HC.out).mono ?_⟩
  rintro e w1 ⟨rfl, hb⟩
  have HB1 := Lib.hid hb
  clear hb HC
  gi_wp2_with fail
  refine ⟨trivial, (callsIn_wide.2 (HJ0.out w1 HB1.out)).mono ?_⟩
  rintro e w2 ⟨rfl, hb⟩
  have HB2 := Lib.hid (Below.andThen HB1.out hb (Nat.le_refl _))
  clear hb HJ0
  gi_wp2_with fail
  refine ⟨trivial, (callsIn_wide.2 (HF0.out w2 HB2.out)).mono ?_⟩
  rintro e w3 ⟨rfl, hb⟩
  have hB3 := Below.andThen HB2.out hb (Nat.le_refl _)
  clear hb HF0
  have bj := (Below.refl w3.heap.size w3).alloc (Nat.le_refl _) (.cells #[.int .i64 (n : Int), .int .i64 p0, .int .i64 p1, .int .i64 p2, .int .i64 p3] 80)
  have zj := size_al w3 (.cells #[.int .i64 (n : Int), .int .i64 p0, .int .i64 p1, .int .i64 p2, .int .i64 p3] 80)
  have rj := Row.new w3 80 [.int .i64 (n : Int), .int .i64 p0, .int .i64 p1, .int .i64 p2, .int .i64 p3]
  obtain ⟨w4, hw4⟩ : ∃ w4, w3.alloc (.cells #[.int .i64 (n : Int), .int .i64 p0, .int .i64 p1, .int .i64 p2, .int .i64 p3] 80) = w4 := ⟨_, rfl⟩
  have bf := (Below.refl w4.heap.size w4).alloc (Nat.le_refl _) (.cells #[.int .i64 f0, .int .i64 f1, .int .i64 f2, .int .i64 f3] 77)
  have zf := size_al w4 (.cells #[.int .i64 f0, .int .i64 f1, .int .i64 f2, .int .i64 f3] 77)
  have rf := Row.new w4 77 [.int .i64 f0, .int .i64 f1, .int .i64 f2, .int .i64 f3]
  obtain ⟨w5, hw5⟩ : ∃ w5, w4.alloc (.cells #[.int .i64 f0, .int .i64 f1, .int .i64 f2, .int .i64 f3] 77) = w5 := ⟨_, rfl⟩
  have blst := (Below.refl w5.heap.size w5).alloc (Nat.le_refl _) (.cells #[.slice none 0 0] 27)
  have rlst := Row.new w5 27 [.slice none 0 0]
  obtain ⟨w6, hw6⟩ : ∃ w6, w5.alloc (.cells #[.slice none 0 0] 27) = w6 := ⟨_, rfl⟩
  rw [hw4] at bj zj rj
  rw [hw5] at bf zf rf
  rw [hw6] at blst rlst
  have hB6 := Below.andThen (Below.andThen (Below.andThen hB3 bj (Nat.le_refl _)) bf (Nat.le_refl _)) blst (Nat.le_refl _)
  have hB5 := Below.andThen (Below.andThen hB3 bj (Nat.le_refl _)) bf (Nat.le_refl _)
  have rj6 := (rj.below bf rj.lt).below blst (rj.below bf rj.lt).lt
  have rf6 := rf.below blst rf.lt
  have HB6 := Lib.hid hB6
  have HB5 := Lib.hid hB5
  have RJ6 := Lib.hid rj6
  have RF6 := Lib.hid rf6
  have AS6 := Lib.hid (show Asq w5 [] (.slice none 0 0) w6 from ⟨rlst, World.ownsRow_nil _ _ _ _, blst⟩)
  have HW := Lib.hid (And.intro hw4 (And.intro hw5 hw6))
  have HZ := Lib.hid (And.intro zj zf)
  have cj : ∀ i vv, ([.int .i64 (n : Int), .int .i64 p0, .int .i64 p1, .int .i64 p2, .int .i64 p3] : List Value)[i]? = some vv → w6.cell? ⟨w3.heap.size, i, none⟩ = some vv := fun i vv h => by rw [rj6.cell i]; exact h
  have j0 := cj 0 _ rfl
  have j1 := cj 1 _ rfl
  have j2 := cj 2 _ rfl
  have j3 := cj 3 _ rfl
  have j4 := cj 4 _ rfl
  rw [← hw6, ← hw5, ← hw4] at j0 j1 j2 j3 j4
  clear cj hB3 bj zj rj bf zf rf blst rlst hB6 hB5 rj6 rf6 hw4 hw5 hw6
  gi_wp2_with fail
  rw [HW.out.1, HW.out.2.1, HW.out.2.2]
  refine ⟨trivial, (callsIn_wide.2 (HST.out w6)).mono ?_⟩
  rintro e w7 ⟨x, rfl, ⟨bl, bj, rfl, hrl, hrj⟩, hb⟩
  clear j0 j1 j2 j3 j4
  have HRL := Lib.hid hrl
  have HRJ := Lib.hid hrj
  have RJ7 := Lib.hid (RJ6.out.below hb RJ6.out.lt)
  have RF7 := Lib.hid (RF6.out.below hb RF6.out.lt)
  have AS7 := Lib.hid (lasts_asq w6.heap.size w5 _ _ AS6.out.bw.size w6 w7 none AS6.out ⟨hb.os, hb.tape, hb.output, hb.size, fun k hk _ => hb.block k hk⟩ (fun r e => by cases e))
  have HB7 := Lib.hid (Below.andThen HB6.out hb (Nat.le_refl _))
  have HS5 := Lib.hid (show w4.heap.size = w3.heap.size + 1 ∧ w5.heap.size = w4.heap.size + 1 from HZ.out)
  clear hrl hrj hb RJ6 RF6 AS6 HB6
  gi_wp2_with fail
  rw [← HS5.out.1, ← HS5.out.2]
  refine range_steps2 (nf := 4) bl bj n (by omega) hn p0 p1 p2 p3 ls m HLS.out HM.out rfl HRL.out.lt HRJ.out.lt HRL.out HRJ.out
    (fun pre W' => ∃ v', Asq w5 (stepsF [p0, p1, p2, p3] [f0, f1, f2, f3] pre) v' W' ∧ Row W' w3.heap.size 80 [.int .i64 (n : Int), .int .i64 p0, .int .i64 p1, .int .i64 p2, .int .i64 p3] ∧ Row W' w4.heap.size 77 [.int .i64 f0, .int .i64 f1, .int .i64 f2, .int .i64 f3] ∧ Row W' bl 3 [.int .i64 ls] ∧ Row W' bj 80 [.int .i64 (n : Int), .int .i64 p0, .int .i64 p1, .int .i64 p2, .int .i64 p3])
    (fun _ _ _ => False) ?hI ?hIx ?h0 (fun x a' W' => ∃ q, a' = { tmps := #[v, .slice a1 k1 c1, .bool cl, undef, undef, undef, .slice none 0 0, .int .i64 0, .int .i64 0, .pointer (some ⟨w3.heap.size, 0, none⟩), .pointer (some ⟨w4.heap.size, 0, none⟩), .pointer (some ⟨w5.heap.size, 0, none⟩), .pointer (some ⟨q, 0, none⟩), v, .slice a1 k1 c1, .slice (some ⟨w.heap.size, 0, none⟩) 1 1, .int .i64 0, .int .i64 0, .bool false, undef, v, .agg #[.int .i64 (n : Int), .int .i64 p0, .int .i64 p1, .int .i64 p2, .int .i64 p3], .slice a1 k1 c1, .agg #[.int .i64 f0, .int .i64 f1, .int .i64 f2, .int .i64 f3], .agg #[.int .i64 (n : Int), .int .i64 p0, .int .i64 p1, .int .i64 p2, .int .i64 p3], .bool cl, .func (.func 70) #[] #[.pointer (some ⟨bl, 0, none⟩), .pointer (some ⟨bj, 0, none⟩)], .agg #[.int .i64 x.1, .int .i64 x.2], undef, undef, undef, undef, undef, undef, undef, undef, undef, undef, undef], defers := [] } ∧ Row W' q 48 [.int .i64 x.1, .int .i64 x.2]) ?hR ?assign ?body ?done ?stop
  case hI => exact fun pre W1 W2 row ⟨v', h1, h2, h3, h4, h5⟩ hg hr => ⟨v', lasts_asq w7.heap.size w5 _ _ (by have := AS7.out.bw.size; have := AS7.out.row.lt; omega) W1 W2 row h1 hg hr, lasts_row _ _ _ _ W1 W2 row h2 hg hr, lasts_row _ _ _ _ W1 W2 row h3 hg hr, lasts_row _ _ _ _ W1 W2 row h4 hg hr, lasts_row _ _ _ _ W1 W2 row h5 hg hr⟩
  case hIx => exact fun c pre => lasts_pure _ _
  case h0 => exact ⟨_, AS7.out, RJ7.out, RF7.out, HRL.out, HRJ.out⟩
  case hR => exact fun x a' W1 W2 row ⟨q, h1, h2⟩ hg hr => ⟨q, h1, lasts_row _ _ _ _ W1 W2 row h2 hg hr⟩
  case assign =>
    intro l x W1 K hs hK
    have hk := hK _ _ ⟨_, rfl, Row.new W1 48 [.int .i64 x.1, .int .i64 x.2]⟩ ((Below.refl W1.heap.size W1).alloc (Nat.le_refl _) _)
    have HKk := Lib.hid hk
    clear hk hK
    dsimp only [encS]
    simp only [List.setIfInBounds_toArray, List.set_cons_succ, List.set_cons_zero]
    gi_wp2
    exact HKk.out
  case body =>
    rintro l x pre a' W1 hx hpl hs1 ⟨v', hA, hJ, hF, hL, hB⟩ ⟨q, rfl, h48⟩
    have hxb := mem_step hx
    have fa := HFIT.out.after (f := x.1) (t := x.2) (by have := HM.out; have := HLS.out; omega) (by have := HM.out; have := HLS.out; omega) hxb.2.2.2.2
    have hca : ∀ W, Calls Try.prog 54 #[.agg #[.int .i64 (n : Int), .int .i64 p0, .int .i64 p1, .int .i64 p2, .int .i64 p3], .agg #[.int .i64 f0, .int .i64 f1, .int .i64 f2, .int .i64 f3], .agg #[.int .i64 x.1, .int .i64 x.2]] W fun e w' => e = .returned (aggI (afterF [p0, p1, p2, p3] [f0, f1, f2, f3] x.1 x.2)) ∧ Below W.heap.size W w' := fun W => after_any n [p0, p1, p2, p3] [f0, f1, f2, f3] rfl rfl HFIT.out.2 x.1 x.2 (by have := HM.out; have := HLS.out; omega) (by have := HM.out; have := HLS.out; omega) hxb.2.2.2.2 W
    obtain ⟨y0, y1, y2, y3, hy⟩ := agg4 _ fa.1
    have hsn := stepsF_snoc [p0, p1, p2, p3] [f0, f1, f2, f3] pre x
    rw [hy] at hca hsn
    simp only [aggI, List.map_cons, List.map_nil, encI] at hca
    have HAF := Lib.hid hca
    have heq := fun W => eq77 y0 y1 y2 y3 f0 f1 f2 f3 W
    have hpx : (if [y0, y1, y2, y3] = [f0, f1, f2, f3] then stepsF [p0, p1, p2, p3] [f0, f1, f2, f3] pre else stepsF [p0, p1, p2, p3] [f0, f1, f2, f3] pre ++ [x]) = (if decide ([y0, y1, y2, y3] = [f0, f1, f2, f3]) = true then stepsF [p0, p1, p2, p3] [f0, f1, f2, f3] pre else stepsF [p0, p1, p2, p3] [f0, f1, f2, f3] pre ++ [x]) := by simp
    rw [hpx] at hsn
    generalize decide ([y0, y1, y2, y3] = [f0, f1, f2, f3]) = eqb at *
    have HEQ := Lib.hid heq
    have HSNC := Lib.hid hsn
    have RJW := Lib.hid hJ
    have RFW := Lib.hid hF
    have RLW := Lib.hid hL
    have RBW := Lib.hid hB
    have R48 := Lib.hid h48
    have ASW := Lib.hid hA
    have HPL := Lib.hid (show pre.length < 25 by have h2 : m * m ≤ 5 * 5 := Nat.mul_le_mul (by have := HM.out; have := HLS.out; omega) (by have := HM.out; have := HLS.out; omega); omega)
    clear hxb fa hca hy heq hpx hsn hJ hF hL hB h48 hA hx hpl
    gi_wp2_with fail
    refine wpIn_region_det2 (by kernel_rfl) (by kernel_rfl) [28, 29, 30, 31, 32, 33] [.agg #[.int .i64 (n : Int), .int .i64 p0, .int .i64 p1, .int .i64 p2, .int .i64 p3], .agg #[.int .i64 f0, .int .i64 f1, .int .i64 f2, .int .i64 f3], .agg #[.int .i64 x.1, .int .i64 x.2], .agg #[.int .i64 y0, .int .i64 y1, .int .i64 y2, .int .i64 y3], .agg #[.int .i64 f0, .int .i64 f1, .int .i64 f2, .int .i64 f3], .bool (!eqb)] (fun W => Below W1.heap.size W1 W) rfl ⟨[undef, undef, undef, undef, undef, undef], by simp only [putAll, Act.put, List.setIfInBounds_toArray, List.set_cons_succ, List.set_cons_zero], rfl⟩ (Below.refl _ _).drew 6 rfl ?steps ?fin
    case steps =>
      simp only [detSteps]
      refine ⟨?_, ?_, ?_, ?_, ?_, ?_, trivial⟩
      · rintro vs W K hc hvl hw hK
        obtain ⟨x0, x1, x2, x3, x4, x5, rfl⟩ := len6 hvl
        have HK := Lib.hid hK
        have HC' := Lib.hid hc
        have HW := Lib.hid hw
        clear hK hc hw hvl
        simp only [putAll, Act.put, List.setIfInBounds_toArray, List.set_cons_succ, List.set_cons_zero]
        have rr := RJW.out.below HC'.out RJW.out.lt
        have j0 : W.cell? ⟨w3.heap.size, 0, none⟩ = some (.int .i64 (n : Int)) := rr.cell 0
        have j1 : W.cell? ⟨w3.heap.size, 1, none⟩ = some (.int .i64 p0) := rr.cell 1
        have j2 : W.cell? ⟨w3.heap.size, 2, none⟩ = some (.int .i64 p1) := rr.cell 2
        have j3 : W.cell? ⟨w3.heap.size, 3, none⟩ = some (.int .i64 p2) := rr.cell 3
        have j4 : W.cell? ⟨w3.heap.size, 4, none⟩ = some (.int .i64 p3) := rr.cell 4
        clear HW
        clear rr
        gi_wp2_with fail
        have fin := HK.out W HC'.out
        simp only [putAll, Act.put, List.setIfInBounds_toArray, List.set_cons_succ, List.set_cons_zero, List.getD_cons_zero] at fin
        exact fin
      · rintro vs W K hc hvl hw hK
        obtain ⟨x0, x1, x2, x3, x4, x5, rfl⟩ := len6 hvl
        have HK := Lib.hid hK
        have HC' := Lib.hid hc
        have HW := Lib.hid hw
        clear hK hc hw hvl
        simp only [putAll, Act.put, List.setIfInBounds_toArray, List.set_cons_succ, List.set_cons_zero]
        have rr := RFW.out.below HC'.out RFW.out.lt
        have j0 : W.cell? ⟨w4.heap.size, 0, none⟩ = some (.int .i64 f0) := rr.cell 0
        have j1 : W.cell? ⟨w4.heap.size, 1, none⟩ = some (.int .i64 f1) := rr.cell 1
        have j2 : W.cell? ⟨w4.heap.size, 2, none⟩ = some (.int .i64 f2) := rr.cell 2
        have j3 : W.cell? ⟨w4.heap.size, 3, none⟩ = some (.int .i64 f3) := rr.cell 3
        clear HW
        clear rr
        gi_wp2_with fail
        have fin := HK.out W HC'.out
        simp only [putAll, Act.put, List.setIfInBounds_toArray, List.set_cons_succ, List.set_cons_zero, List.getD_cons_succ, List.getD_cons_zero] at fin
        exact fin
      · rintro vs W K hc hvl hw hK
        obtain ⟨x0, x1, x2, x3, x4, x5, rfl⟩ := len6 hvl
        have HK := Lib.hid hK
        have HC' := Lib.hid hc
        have HW := Lib.hid hw
        clear hK hc hw hvl
        simp only [putAll, Act.put, List.setIfInBounds_toArray, List.set_cons_succ, List.set_cons_zero]
        have rr := R48.out.below HC'.out R48.out.lt
        have j0 : W.cell? ⟨q, 0, none⟩ = some (.int .i64 x.1) := rr.cell 0
        have j1 : W.cell? ⟨q, 1, none⟩ = some (.int .i64 x.2) := rr.cell 1
        clear HW
        clear rr
        gi_wp2_with fail
        have fin := HK.out W HC'.out
        simp only [putAll, Act.put, List.setIfInBounds_toArray, List.set_cons_succ, List.set_cons_zero, List.getD_cons_succ, List.getD_cons_zero] at fin
        exact fin
      · rintro vs W K hc hvl hw hK
        obtain ⟨x0, x1, x2, x3, x4, x5, rfl⟩ := len6 hvl
        have HK := Lib.hid hK
        have HC' := Lib.hid hc
        have HW := Lib.hid hw
        clear hK hc hw hvl
        obtain rfl : x0 = .agg #[.int .i64 (n : Int), .int .i64 p0, .int .i64 p1, .int .i64 p2, .int .i64 p3] := st_get (HW.out ⟨0, .data⟩ (by simp) rfl) rfl rfl
        obtain rfl : x1 = .agg #[.int .i64 f0, .int .i64 f1, .int .i64 f2, .int .i64 f3] := st_get (HW.out ⟨1, .data⟩ (by simp) rfl) rfl rfl
        obtain rfl : x2 = .agg #[.int .i64 x.1, .int .i64 x.2] := st_get (HW.out ⟨2, .data⟩ (by simp) rfl) rfl rfl
        simp only [putAll, Act.put, List.setIfInBounds_toArray, List.set_cons_succ, List.set_cons_zero]
        clear HW
        gi_wp2_with fail
        refine ⟨trivial, ?_⟩
        refine (CallsIn.inRound l (callsIn_wide.2 (HAF.out W))).mono ?_
        rintro e W' ⟨rfl, hb'⟩
        have HB' := Lib.hid hb'
        clear hb'
        gi_wp2_with fail
        have fin := HK.out W' (Below.andThen HC'.out HB'.out (Nat.le_refl _))
        simp only [putAll, Act.put, List.setIfInBounds_toArray, List.set_cons_succ, List.set_cons_zero, List.getD_cons_succ, List.getD_cons_zero] at fin
        exact fin
      · rintro vs W K hc hvl hw hK
        obtain ⟨x0, x1, x2, x3, x4, x5, rfl⟩ := len6 hvl
        have HK := Lib.hid hK
        have HC' := Lib.hid hc
        have HW := Lib.hid hw
        clear hK hc hw hvl
        simp only [putAll, Act.put, List.setIfInBounds_toArray, List.set_cons_succ, List.set_cons_zero]
        have rr := RFW.out.below HC'.out RFW.out.lt
        have j0 : W.cell? ⟨w4.heap.size, 0, none⟩ = some (.int .i64 f0) := rr.cell 0
        have j1 : W.cell? ⟨w4.heap.size, 1, none⟩ = some (.int .i64 f1) := rr.cell 1
        have j2 : W.cell? ⟨w4.heap.size, 2, none⟩ = some (.int .i64 f2) := rr.cell 2
        have j3 : W.cell? ⟨w4.heap.size, 3, none⟩ = some (.int .i64 f3) := rr.cell 3
        clear HW
        clear rr
        gi_wp2_with fail
        have fin := HK.out W HC'.out
        simp only [putAll, Act.put, List.setIfInBounds_toArray, List.set_cons_succ, List.set_cons_zero, List.getD_cons_succ, List.getD_cons_zero] at fin
        exact fin
      · rintro vs W K hc hvl hw hK
        obtain ⟨x0, x1, x2, x3, x4, x5, rfl⟩ := len6 hvl
        have HK := Lib.hid hK
        have HC' := Lib.hid hc
        have HW := Lib.hid hw
        clear hK hc hw hvl
        obtain rfl : x3 = .agg #[.int .i64 y0, .int .i64 y1, .int .i64 y2, .int .i64 y3] := st_get (HW.out ⟨3, .data⟩ (by simp) rfl) rfl rfl
        obtain rfl : x4 = .agg #[.int .i64 f0, .int .i64 f1, .int .i64 f2, .int .i64 f3] := st_get (HW.out ⟨4, .data⟩ (by simp) rfl) rfl rfl
        simp only [putAll, Act.put, List.setIfInBounds_toArray, List.set_cons_succ, List.set_cons_zero]
        clear HW
        gi_wp2_with fail
        rw [HEQ.out, Result.andThen_ok]
        gi_wp2_with fail
        have fin := HK.out W HC'.out
        simp only [putAll, Act.put, List.setIfInBounds_toArray, List.set_cons_succ, List.set_cons_zero, List.getD_cons_succ, List.getD_cons_zero] at fin
        exact fin
    case fin =>
      intro W hbw
      have HBW := Lib.hid hbw
      clear hbw
      simp only [putAll, Act.put, List.setIfInBounds_toArray, List.set_cons_succ, List.set_cons_zero]
      have hasq := lasts_asq W1.heap.size w5 _ _ (by have := ASW.out.bw.size; have := ASW.out.row.lt; omega) W1 W none ASW.out ⟨HBW.out.os, HBW.out.tape, HBW.out.output, HBW.out.size, fun k hk _ => HBW.out.block k hk⟩ (fun r e => by cases e)
      have rj := RJW.out.below HBW.out RJW.out.lt
      have rf := RFW.out.below HBW.out RFW.out.lt
      have rl := RLW.out.below HBW.out RLW.out.lt
      have rb := RBW.out.below HBW.out RBW.out.lt
      have r48 := R48.out.below HBW.out R48.out.lt
      cases eqb with
      | true =>
        rw [if_pos rfl] at HSNC
        have HAL := Lib.hid (And.intro hasq (And.intro rj (And.intro rf (And.intro rl rb))))
        clear hasq rj rf rl rb r48
        gi_wp2_with fail
        exact ⟨keeps_below HBW.out, Keeps2.of_below HBW.out RLW.out.lt RBW.out.lt, ⟨_, by rw [HSNC.out]; exact HAL.out.1⟩, HAL.out.2⟩
      | false =>
        rw [if_neg (by simp)] at HSNC
        have ba := (Below.refl W.heap.size W).alloc (Nat.le_refl _) (.cells #[.int .i64 x.1, .int .i64 x.2] 48)
        have rn := Row.new W 48 [.int .i64 x.1, .int .i64 x.2]
        have hll : (stepsF [p0, p1, p2, p3] [f0, f1, f2, f3] pre).length ≤ 25 := Nat.le_trans (List.length_filter_le _ _) (Nat.le_of_lt HPL.out)
        generalize stepsF [p0, p1, p2, p3] [f0, f1, f2, f3] pre = sl at *
        obtain ⟨v7, W2, hap, ho2, hg2, _, hblk⟩ := run_append_own_at (P := Try.prog) (W.alloc (.cells #[.int .i64 x.1, .int .i64 x.2] 48)) (w5.heap.size + 1) 27 27 48 i0 (.agg #[.int .i64 0, .int .i64 0]) 2 16 Try.underlying27 hi hz0 hz1' hz2 rfl (by decide) v' sl.length (flatP sl) (hasq.own.alloc _)
          ⟨W.heap.size, 0, none⟩ 1 1 [.int .i64 x.1, .int .i64 x.2] rfl (fun j u hj => by rw [Go.WideShapes.add_plain]; simp only [Nat.zero_add]; rw [Row.cell rn]; exact hj) (by simp [Value.oneCell']) (by unfold maxLen; omega) (by omega) (by rw [size_al]; have := hasq.row.lt; omega)
        obtain ⟨g7, cap7, hv7⟩ : ∃ g7 cap7, v7 = .slice (some ⟨g7, 0, none⟩) (sl.length + 1) cap7 := by
          rcases ho2.2 with ⟨_, h⟩ | ⟨g, cap, cur, h, _⟩
          · omega
          · exact ⟨g, cap, h⟩
        subst hv7
        have hst := asq_step (r := w4.heap.size) (b := w4.heap.size) hasq ho2 hg2 (by have := HS5.out.2; omega) (by have := HS5.out.2; omega)
        have kr := fun (g : Nat) (E : TypeId) (vs : List Value) (hr : Row W g E vs) (h1 : E ≠ 48) (h2 : E ≠ 27) => asq_row (v' := .slice (some ⟨g7, 0, none⟩) (sl.length + 1) cap7) hasq hg2 hr h1 h2
        have HAL := Lib.hid (And.intro hst.1 (And.intro (kr _ _ _ rj (by decide) (by decide)) (And.intro (kr _ _ _ rf (by decide) (by decide)) (And.intro (kr _ _ _ rl (by decide) (by decide)) (kr _ _ _ rb (by decide) (by decide))))))
        have HKF := Lib.hid hst.2.2
        have c0 : W.cell? ⟨w5.heap.size, 0, none⟩ = some v' := hasq.row.cell 0
        have s0 : W.cell? ⟨q, 0, none⟩ = some (.int .i64 x.1) := r48.cell 0
        have s1 : W.cell? ⟨q, 1, none⟩ = some (.int .i64 x.2) := r48.cell 1
        have r2 : Row W2 w5.heap.size 27 [v'] := (hasq.row.below ba hasq.row.lt).kept hg2 (fun e => by
          have := (hasq.own.lt w5.heap.size e.symm).1; omega)
        have c2 : W2.cell? ⟨w5.heap.size, 0, none⟩ = some v' := r2.cell 0
        have k2 := frozen_of_row W2 w5.heap.size 0 _ _ r2
        have HAP := Lib.hid hap
        clear hst hap ho2 hg2 hblk hasq rj rf rl rb r48 rn ba r2 kr hll
        gi_wp2_with (gi_at_builtin; refine wpListIn_append_run rfl _ _ 27 rfl _ _ _ _ rfl rfl HAP.out ?_)
        refine ⟨(keeps_below HBW.out).trans ⟨HKF.out.size, fun k o hB => HKF.out.same k o (by have := AS7.out.bw.size; omega)⟩, ⟨?_, ?_, ?_⟩, _, by rw [HSNC.out]; exact HAL.out.1, HAL.out.2⟩
        · exact Nat.le_trans HBW.out.size HKF.out.size
        · rw [show W1.heap[bl]? = _ from RLW.out]; exact HAL.out.2.2.2.1
        · rw [show W1.heap[bj]? = _ from RBW.out]; exact HAL.out.2.2.2.2
  case done =>
    rintro D W1 hD ⟨v', hA, _⟩ hK
    have c0 : W1.cell? ⟨w5.heap.size, 0, none⟩ = some v' := hA.row.cell 0
    have HA := Lib.hid hA
    have HK := Lib.hid hK
    have HD := Lib.hid hD
    clear hA hK hD
    dsimp only
    simp only [Exit.inBlock]
    gi_wp2_with fail
    have hws := AS7.out.bw.size
    have hwl := AS7.out.row.lt
    refine leaves_marks (B := D) (fun X => OwnP X w.heap.size v' (stepsF [p0, p1, p2, p3] [f0, f1, f2, f3] (stepsL ls m)) ∧ Below w.heap.size w X)
      ((lasts_owns _ _ _ _ _ _ _).and (lasts_below _ _ _ (by have := HD.out; have := HB5.out.size; omega) (Nat.le_refl _))) ?_ [{ target := .collected D, args := #[] }] _ ⟨[D], rfl, by simp, fun E hE => by rw [List.mem_singleton.1 hE]; exact ⟨Nat.le_refl _, HK.out⟩⟩ ⟨?_, Below.andThen HB5.out HA.out.bw (Nat.le_refl _)⟩
    · rintro X ⟨ho, hb⟩
      refine ⟨.tuple #[v', .int .i64 0], ?_, v', rfl, ho, hb⟩
      simp [results, Try.results25, go_sem]
    · have h := HA.out.own
      rw [flatP_flat] at h
      exact owns_mono h (by have := HB5.out.size; omega)
  case stop =>
    rintro D c pre W1 hD _ hf
    exact hf.elim
end Go.Proofs.Ytlamppplnojpbaa
