import Derived.Test.YtlamppplnojpbaaJo
import Derived.Laws.AppendOwn
import Derived.Maps.OwnIn
import Derived.Maps.AppendAt
import Derived.RangeFuncNested
import Derived.RangeFuncBound
import Derived.RangeFuncCalls
import Derived.RangeFuncLeaves
import Derived.Shelf.Abstract
import Derived.Shelf.RegionOpen
import Derived.WalkKit
import Derived.WalkMore
import Derived.OwnWalkIn
import Derived.TacticsInMore
import Derived.LoopNIn
import Derived.LoopIn
import Derived.WalkSpells
import Derived.WalkLawsBesides
import Derived.BigQuiet
import Derived.Deep.QuietTactic
import Derived.Lib.Hide
import Derived.Deep.RegionHeld3
import Derived.StillTailTactics
import Derived.Deep.LoopGhost
import Derived.Maps.OwnSet
import Derived.Lib.IndexAny
import Derived.Sort.QuietThIn
import Derived.Sort.QuietTacIn
import Derived.Sort.BigQuietIn
namespace Go.Proofs.Ytlamppplnojpbaa
open Go.RowKit Go.Shelf
attribute [local go_sem] Oper.semAt_some
/-- the search from a filling -/
def srch (P : List Int) (gl : List Int → Bool) (ss : List (Int × Int)) (k : Nat) (F : List Int) : Option (Sn × Option (List Int)) :=
  if gl F = true then some ([(F, c0)], some F) else bfs P gl ss k [(F, c0)] [F]
theorem search_any (f0 f1 f2 f3 : Int) (gl : List Int → Bool) (G : FuncId) (caps : Array Value) (n : Nat) (p0 p1 p2 p3 ls : Int) (m : Nat) (hn : n ≤ 4) (hls : ls = -1 ∨ ls = 0) (hm : (n : Int) = ls + (m : Int)) (bl bj : Nat) (w : World)
    (rl : Row w bl 3 [.int .i64 ls]) (rj : Row w bj 80 [.int .i64 (n : Int), .int .i64 p0, .int .i64 p1, .int .i64 p2, .int .i64 p3])
    (hen : ∀ args W, (callFunc G args).run Try.prog W = .ok (.enter G args) W)
    (hg : ∀ W x0 x1 x2 x3, Below w.heap.size w W → Fok [x0, x1, x2, x3] → Calls Try.prog G (#[.agg #[.int .i64 x0, .int .i64 x1, .int .i64 x2, .int .i64 x3]] ++ caps) W fun e w' => e = .returned (.bool (gl [x0, x1, x2, x3])) ∧ Below W.heap.size W w')
    (hfit : FitP [p0, p1, p2, p3] [f0, f1, f2, f3]) (k : Nat) (hk : k ≤ 30000) (res : Sn × Option (List Int)) (hres : srch [p0, p1, p2, p3] gl (stepsL ls m) k [f0, f1, f2, f3] = some res) :
    Calls Try.prog 57 #[.agg #[.int .i64 f0, .int .i64 f1, .int .i64 f2, .int .i64 f3], .func (.func 70) #[] #[.pointer (some ⟨bl, 0, none⟩), .pointer (some ⟨bj, 0, none⟩)], .func (.func 54) #[.agg #[.int .i64 (n : Int), .int .i64 p0, .int .i64 p1, .int .i64 p2, .int .i64 p3]] #[], .func (.func G) #[] caps] w
      fun e w' => e = .returned (.agg #[.map (some (w.heap.size + 1 + 1 + 1 + 1)), .int .i64 ((res.2.getD [0, 0, 0, 0]).getD 0 0), .int .i64 ((res.2.getD [0, 0, 0, 0]).getD 1 0), .int .i64 ((res.2.getD [0, 0, 0, 0]).getD 2 0), .int .i64 ((res.2.getD [0, 0, 0, 0]).getD 3 0), .bool res.2.isSome]) ∧ SeenAt w' (w.heap.size + 1 + 1 + 1 + 1) res.1.length (seenV res.1) ∧ Below w.heap.size w w' := by
  unfold srch at hres
  cases hgl : gl [f0, f1, f2, f3] with
  | true =>
    rw [if_pos hgl] at hres
    cases hres
    exact search_goal f0 f1 f2 f3 gl G caps _ bl bj w rl.lt rj.lt hfit.fok hen hg hgl
  | false =>
    rw [if_neg (by rw [hgl]; simp)] at hres
    exact search_walk f0 f1 f2 f3 gl G caps n p0 p1 p2 p3 ls m hn hls hm bl bj w rl rj hfit.fok hen hg hgl hfit k hk res hres
/-! the search ends -/
theorem nodup_le : ∀ (N : Nat) (l : List Nat), l.Nodup → (∀ x ∈ l, x < N) → l.length ≤ N
  | 0, [], _, _ => Nat.le_refl _
  | 0, x :: _, _, h => absurd (h x List.mem_cons_self) (Nat.not_lt_zero _)
  | N + 1, l, hn, h => by
    by_cases hm : N ∈ l
    · have h1 := nodup_le N (l.erase N) (hn.erase N) (fun x hx => by
        have h2 := (hn.mem_erase_iff).1 hx
        have := h x h2.2
        omega)
      rw [List.length_erase_of_mem hm] at h1
      omega
    · have h1 := nodup_le N l hn (fun x hx => by
        have := h x hx
        have : x ≠ N := fun e => hm (e ▸ hx)
        omega)
      omega
def codeF (F : List Int) : Nat := (((F.getD 0 0 * 13 + F.getD 1 0) * 13 + F.getD 2 0) * 13 + F.getD 3 0).toNat
theorem codeF_lt {P F : List Int} (h : FitP P F) : codeF F < 28561 := by
  have h0 := h.2 0 (by omega)
  have h1 := h.2 1 (by omega)
  have h2 := h.2 2 (by omega)
  have h3 := h.2 3 (by omega)
  unfold codeF
  omega
theorem codeF_inj {P F G : List Int} (h : FitP P F) (h' : FitP P G) (e : codeF F = codeF G) : F = G := by
  have h0 := h.2 0 (by omega)
  have h1 := h.2 1 (by omega)
  have h2 := h.2 2 (by omega)
  have h3 := h.2 3 (by omega)
  have g0 := h'.2 0 (by omega)
  have g1 := h'.2 1 (by omega)
  have g2 := h'.2 2 (by omega)
  have g3 := h'.2 3 (by omega)
  obtain ⟨a, b, c, d, rfl⟩ := agg4 F h.1
  obtain ⟨a', b', c', d', rfl⟩ := agg4 G h'.1
  unfold codeF at e
  simp only [List.getD_cons_zero, List.getD_cons_succ] at *
  have e1 : a = a' := by omega
  have e2 : b = b' := by omega
  have e3 : c = c' := by omega
  have e4 : d = d' := by omega
  rw [e1, e2, e3, e4]
theorem nodup_map_code {P : List Int} : ∀ l : List (List Int), (∀ F ∈ l, FitP P F) → l.Nodup → (l.map codeF).Nodup
  | [], _, _ => List.nodup_nil
  | F :: l, h, hn => by
    obtain ⟨h1, h2⟩ := List.nodup_cons.1 hn
    rw [List.map_cons, List.nodup_cons]
    refine ⟨fun hm => ?_, nodup_map_code l (fun G hG => h G (List.mem_cons_of_mem _ hG)) h2⟩
    obtain ⟨G, hG, e⟩ := List.mem_map.1 hm
    exact h1 (codeF_inj (h F List.mem_cons_self) (h G (List.mem_cons_of_mem _ hG)) e.symm ▸ hG)
theorem keys_le {P : List Int} {A : Sn} (h : ∀ p ∈ A, FitP P p.1) (hn : (A.map Prod.fst).Nodup) : A.length ≤ 28561 := by
  have h1 := nodup_le 28561 ((A.map Prod.fst).map codeF) (nodup_map_code _ (fun F hF => by obtain ⟨p, hp, rfl⟩ := List.mem_map.1 hF; exact h p hp) hn) (fun x hx => by
    obtain ⟨F, hF, rfl⟩ := List.mem_map.1 hx
    obtain ⟨p, hp, rfl⟩ := List.mem_map.1 hF
    exact codeF_lt (h p hp))
  simpa using h1
theorem lookA_none : ∀ (A : Sn) (F : List Int), (lookA A F).isSome = false → F ∉ A.map Prod.fst
  | [], _, _ => by simp
  | p :: r, F, h => by
    rw [lookA] at h
    by_cases e : p.1 = F
    · rw [if_pos e] at h; simp at h
    · rw [if_neg e] at h
      rw [List.map_cons, List.mem_cons, not_or]
      exact ⟨fun e' => e e'.symm, lookA_none r F h⟩
theorem visit_nodup {P : List Int} {gl : List Int → Bool} {here : List Int} {cnt : Int} : ∀ (xs : List (Int × Int)) (s t : Sn × List (List Int)) (o : Option (List Int)), (s.1.map Prod.fst).Nodup → visit P gl here cnt xs s = (t, o) → (t.1.map Prod.fst).Nodup
  | [], s, t, o, hn, h => by rw [visit] at h; cases h; exact hn
  | x :: xs, s, t, o, hn, h => by
    rw [visit] at h
    by_cases e : (lookA s.1 (afterF P here x.1 x.2)).isSome = true
    · rw [if_pos e] at h; exact visit_nodup xs s t o hn h
    · rw [if_neg e] at h
      have hn2 : ((afterF P here x.1 x.2 :: s.1.map Prod.fst)).Nodup := List.nodup_cons.2 ⟨lookA_none _ _ (by simpa using e), hn⟩
      split at h
      · cases h; exact hn2
      · exact visit_nodup xs ((afterF P here x.1 x.2, ⟨here, x.1, x.2, cnt⟩) :: s.1, s.2 ++ [afterF P here x.1 x.2]) t o hn2 h
theorem bfs_ends (P : List Int) (gl : List Int → Bool) (ls : Int) (m : Nat) (hls : ls = -1 ∨ ls = 0) (hm : ls + (m : Int) ≤ 4) : ∀ (M : Nat) (A : Sn) (qs : List (List Int)), (A.map Prod.fst).Nodup → (∀ p ∈ A, FitP P p.1) → (∀ q ∈ qs, FitP P q) → 28561 - A.length + qs.length < M →
    ∃ res, bfs P gl (stepsL ls m) M A qs = some res
  | 0, _, _, _, _, _, h => absurd h (Nat.not_lt_zero _)
  | _ + 1, A, [], _, _, _, _ => ⟨_, by rw [bfs]⟩
  | M + 1, A, q :: qs, hn, hA, hq, h => by
    rw [bfs]
    rcases hv : visit P gl q (((lookA A q).map Cm.k).getD 0 + 1) (stepsL ls m) (A, qs) with ⟨⟨A', qs'⟩, o⟩
    cases o with
    | some g => exact ⟨_, rfl⟩
    | none =>
      have hk := visit_keeps (P := P) (gl := gl) (here := q) (fun F => FitP P F) (fun _ => True) (stepsL ls m) (A, qs) (A', qs') none (fun x hx => by
        have hs := mem_step hx
        exact ⟨(hq q List.mem_cons_self).after (by omega) (by omega) hs.2.2.2.2, trivial⟩) (fun p hp => ⟨hA p hp, trivial⟩) (fun q' hq' => hq q' (List.mem_cons_of_mem _ hq')) hv
      have hn' := visit_nodup _ _ _ _ hn hv
      have hl := (visit_len _ _ _ _ hv).2
      have hA' : ∀ p ∈ A', FitP P p.1 := fun p hp => (hk.1 p hp).1
      have hc := keys_le hA' hn'
      have hc0 := keys_le hA hn
      dsimp only at hl
      rw [List.length_cons] at h
      exact bfs_ends P gl ls m hls hm M A' qs' hn' hA' hk.2 (by omega)
theorem srch_ends (P : List Int) (gl : List Int → Bool) (ls : Int) (m : Nat) (hls : ls = -1 ∨ ls = 0) (hm : ls + (m : Int) ≤ 4) (F : List Int) (hF : FitP P F) : ∃ res, srch P gl (stepsL ls m) 28562 F = some res := by
  unfold srch
  split
  · exact ⟨_, rfl⟩
  · exact bfs_ends P gl ls m hls hm 28562 [(F, c0)] [F] (by simp) (fun p hp => by rw [List.mem_singleton.1 hp]; exact hF) (fun q hq => by rw [List.mem_singleton.1 hq]; exact hF) (by simp)
end Go.Proofs.Ytlamppplnojpbaa
