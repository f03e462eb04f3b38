import Derived.Test.YtlehddifcjklgaaInv
import Derived.Maps.OwnIn
import Derived.Maps.OwnSet
import Derived.Maps.AppendAt
import Derived.RangeFuncNested
import Derived.RangeFuncBound
import Derived.RangeFuncCalls
import Derived.RangeFuncLeaves
import Derived.Shelf.Abstract
import Derived.Shelf.RegionOpen
import Derived.WalkKit
import Derived.OwnWalkIn
import Derived.TacticsInMore
import Derived.LoopNIn
import Derived.LoopIn
import Derived.Sort.QuietThIn
import Derived.Sort.QuietTacIn
import Derived.Sort.BigQuietIn
import Derived.WalkSpells
import Derived.WalkLawsBesides
import Derived.BigQuiet
import Derived.Deep.QuietTactic
import Derived.Lib.Hide
import Derived.Deep.RegionHeld3
import Derived.StillTailTactics
import Derived.Deep.LoopGhost
import Derived.Lib.IndexAny
namespace Go.Proofs.Ytlehddifcjklgaa
open Go.RowKit Go.Shelf
attribute [local go_sem] Oper.semAt_some

theorem info3 : (Try.prog.info? 3).map (fun i => (i.zero, i.size, i.bytes)) = some (some (.int .i64 0), 1, 8) := by kernel_rfl
/-- two slices of the call's own do not lie in one row -/
def Apart (u v : Value) : Prop := u.ownBlock = none ∨ v.ownBlock = none ∨ u.ownBlock ≠ v.ownBlock
theorem Apart.symm {u v : Value} (h : Apart u v) : Apart v u := by
  rcases h with h | h | h
  · exact .inr (.inl h)
  · exact .inl h
  · exact .inr (.inr (Ne.symm h))
theorem own_lt {W : World} {n₀ e k s : Nat} {u : Value} {xs : List Value} (h : W.ownsRow n₀ e s u k xs) : ∀ g, u.ownBlock = some g → g < W.heap.size := by
  intro g hg
  rcases h.2 with ⟨rfl, _⟩ | ⟨g', cap, cur, rfl, _, hgb, _⟩
  · simp [Value.ownBlock] at hg
  · simp [Value.ownBlock] at hg
    subst hg
    exact (Array.getElem?_eq_some_iff.1 hgb).1
theorem ownsRow_kind {W : World} {n₀ e k s : Nat} {u : Value} {xs : List Value} (h : W.ownsRow n₀ e s u k xs) : ∀ g, u.ownBlock = some g → ∃ c fz, W.heap[g]? = some (.cells c e fz) := by
  intro g hg
  rcases h.2 with ⟨rfl, _⟩ | ⟨g', cap, cur, rfl, _, hgb, _⟩
  · simp [Value.ownBlock] at hg
  · simp [Value.ownBlock] at hg
    subst hg
    exact ⟨_, _, hgb⟩
/-- the accumulator in box B holds zs -/
def Acc (W : World) (n₀ B : Nat) (zs : List Int) (v : Value) : Prop := n₀ ≤ B ∧ Boxed W B 32 v ∧ W.ownsRow n₀ 3 1 v zs.length (zs.map encI)
theorem acc_append {W w1 : World} {n₀ Bk : Nat} {zs : List Int} {x : Int} {vk v' : Value} (tmp : Obj) (ha : Acc W n₀ Bk zs vk) (hn : n₀ ≤ W.heap.size)
    (hown' : w1.ownsRow n₀ 3 1 v' (zs.length + 1) (zs.map encI ++ [encI x])) (hg : (W.alloc tmp).grownBy w1 vk.ownBlock) (hat : v'.ownBlock = vk.ownBlock ∨ v'.ownBlock = some (W.alloc tmp).heap.size) :
    w1.cell? ⟨Bk, 0, none⟩ = some vk ∧ w1.frozen? ⟨Bk, 0, none⟩ = false ∧
    Acc (w1.setCell ⟨Bk, 0, none⟩ v') n₀ Bk (zs ++ [x]) v' ∧ KeepsOthers W (w1.setCell ⟨Bk, 0, none⟩ v') ∧ Below n₀ W (w1.setCell ⟨Bk, 0, none⟩ v') ∧
    (∀ g cs t, W.heap[g]? = some (.cells cs t (0, 0)) → g ≠ Bk → t ≠ 3 → (w1.setCell ⟨Bk, 0, none⟩ v').heap[g]? = some (.cells cs t (0, 0))) ∧
    (∀ B ys u, Acc W n₀ B ys u → B ≠ Bk → Apart u vk → Acc (w1.setCell ⟨Bk, 0, none⟩ v') n₀ B ys u ∧ Apart u v') := by
  obtain ⟨hB, hk, hr⟩ := ha
  obtain ⟨h1, h2, h3, h4, h5⟩ := hk.appended (by decide) hr hn hB hown' hg
  have hrow : ∀ g cs t, W.heap[g]? = some (.cells cs t (0, 0)) → g ≠ Bk → t ≠ 3 → (w1.setCell ⟨Bk, 0, none⟩ v').heap[g]? = some (.cells cs t (0, 0)) := fun g cs t hgt hne ht => by
    have hlt : g < W.heap.size := (Array.getElem?_eq_some_iff.1 hgt).1
    have a1 : (W.alloc tmp).heap[g]? = some (.cells cs t (0, 0)) := (Below.heap_alloc W tmp g hlt).trans hgt
    have a2 : w1.heap[g]? = some (.cells cs t (0, 0)) := (hg.block g (by simp; omega) (fun e => by
      obtain ⟨c, fz, hk2⟩ := ownsRow_kind hr g e.symm
      rw [hgt] at hk2; cases hk2; exact ht rfl)).trans a1
    exact ((grownBy_setCell' w1 Bk v').block g (by have := hg.size; simp at this; omega) (fun e => hne (by cases e; rfl))).trans a2
  have hbox : ∀ B t u, Boxed W B t u → B ≠ Bk → t ≠ 3 → Boxed (w1.setCell ⟨Bk, 0, none⟩ v') B t u := fun B t u hu hne ht => hrow B _ t hu hne ht
  refine ⟨h1.cell, h1.frozen, ⟨hB, h2, by simpa using h3⟩, h4, h5, hrow, fun B ys u hu hne hap => ?_⟩
  obtain ⟨hB', hub, hur⟩ := hu
  have b1 : (W.alloc tmp).ownsRow n₀ 3 1 u ys.length (ys.map encI) := hur.alloc tmp
  have b2 : w1.ownsRow n₀ 3 1 u ys.length (ys.map encI) := b1.kept hg (by
    rcases hap with h | h | h
    · exact .inl h
    · cases hu2 : u.ownBlock with
      | none => exact .inl rfl
      | some g => right; rw [h]; simp
    · exact .inr h)
  have b3 : (w1.setCell ⟨Bk, 0, none⟩ v').ownsRow n₀ 3 1 u ys.length (ys.map encI) := ownsRow_setCell_other b2 (fun e => by
    have := hk.not_row (t := 32) (by decide) hur
    exact this e.symm) v'
  refine ⟨⟨hB', hbox B 32 u hub hne (by decide), b3⟩, ?_⟩
  rcases hat with h | h
  · unfold Apart; rw [h]; exact hap
  · cases hu2 : u.ownBlock with
    | none => exact .inl hu2
    | some g =>
      refine .inr (.inr ?_)
      rw [hu2, h]
      have := own_lt hur g hu2
      simp; omega
theorem wpListIn_append_own_at {F : Fence} {n : Nat} {P : Program} (w : World) {ops : Array Oper} {rest : List Oper} {o : Oper} {a : Act} {Q : Exit → Act → World → Prop}
    (hg : o.guard = none) (s x : Operand) (t : TypeId) (hop : o.op = Op.call { callee := Callee.builtin Builtin.append, args := #[s, x], argTypes := #[t, t] })
    (base : Nat) (e : TypeId) (i : TypeInfo) (z : Value) (size bytes : Nat) (h1 : P.underlying t = some (.slice e)) (h2 : P.info? e = some i) (h3 : i.zero = some z) (h4 : i.size = size) (h5 : i.bytes = bytes) (h6 : z.cells.size = size) (h7 : 0 < size)
    (v : Value) (k : Nat) (xs : List Value) (hs : a.eval s = v) (hown : w.ownsRow base e size v k xs) (ad : Addr) (m c : Nat) (news : List Value) (hx : a.eval x = .slice (some ad) m c) (hn : news.length = m * size)
    (hc : ∀ j u, news[j]? = some u → w.cell? (ad.add j) = some u) (h1c : ∀ u ∈ news, u.oneCell' = true) (b1 : k + m ≤ maxLen) (b2 : (k + m) * bytes ≤ 140737488355328) (b3 : base ≤ w.heap.size)
    (hK : ∀ v' w', w'.ownsRow base e size v' (k + m) (xs ++ news) → w.grownBy w' v.ownBlock → (v'.ownBlock = v.ownBlock ∨ v'.ownBlock = some w.heap.size) → wpListIn F n P ops Q rest (a.put o.dst v') w') :
    wpListIn F n P ops Q (o :: rest) a w := by
  refine wpListIn_plain hg fun K hK' => ?_
  obtain ⟨v', w', hrun, r1, r2, _, r4⟩ := run_append_own_at (P := P) w base t o.type e i z size bytes h1 h2 h3 h4 h5 h6 h7 v k xs hown ad m c news hn hc h1c b1 b2 b3
  unfold Oper.wpIn
  refine ⟨?_, ?_⟩
  · simp [Oper.about, hop, resolve, Target.leads, Sem.run_pure]
  · rw [Oper.semAt_plain F _ _ (by rw [hop]; intro c hc'; cases hc')]
    simp [execOp, hop, resolve, invoke, builtin, hs, hx, hrun, Result.andThen]
    exact hK' _ _ (hK v' w' r1 r2 r4)

theorem lasts_heap (B g : Nat) (cs : Array Value) (t : TypeId) : Lasts B (fun W => W.heap[g]? = some (.cells cs t (0, 0))) := fun W W' row hi hg hr => by
  show W'.heap[g]? = _
  rw [hg.block g (Array.getElem?_eq_some_iff.1 hi).1 (fun e => by
    obtain ⟨_, o, ho, hc⟩ := hr g e.symm
    rw [hi] at ho; cases ho; cases hc)]
  exact hi
theorem Acc.grown {W W' : World} {n₀ B : Nat} {zs : List Int} {v : Value} {row : Option Nat} (h : Acc W n₀ B zs v) (hg : W.grownBy W' row) (hr : ∀ r, row = some r → ∃ o : Obj, W.heap[r]? = some o ∧ o.isCells = false) : Acc W' n₀ B zs v :=
  ⟨h.1, h.2.1.kept hg (fun e => by
    obtain ⟨o, ho, hc⟩ := hr B e.symm
    rw [show W.heap[B]? = _ from h.2.1] at ho; cases ho; cases hc), h.2.2.kept hg (by
    cases hv : v.ownBlock with
    | none => exact .inl rfl
    | some g =>
      right; intro e
      obtain ⟨o, ho, hc⟩ := hr g e.symm
      obtain ⟨c, fz, hk⟩ := ownsRow_kind h.2.2 g hv
      rw [hk] at ho; cases ho; cases hc)⟩
theorem Acc.below {W W' : World} {n₀ B : Nat} {zs : List Int} {v : Value} (h : Acc W n₀ B zs v) (hb : Below W.heap.size W W') : Acc W' n₀ B zs v :=
  h.grown (row := none) ⟨hb.os, hb.tape, hb.output, hb.size, fun k hk _ => hb.block k hk⟩ (fun r e => by cases e)
def Acc3 (W : World) (n₀ B0 B1 B2 : Nat) (z0 z1 z2 : List Int) : Prop :=
  ∃ v0 v1 v2, Acc W n₀ B0 z0 v0 ∧ Acc W n₀ B1 z1 v1 ∧ Acc W n₀ B2 z2 v2 ∧ Apart v0 v1 ∧ Apart v0 v2 ∧ Apart v1 v2
theorem lasts_acc3 (B n₀ B0 B1 B2 : Nat) (z0 z1 z2 : List Int) : Lasts B (fun W => Acc3 W n₀ B0 B1 B2 z0 z1 z2) := fun W W' row hi hg hr => by
  obtain ⟨v0, v1, v2, h0, h1, h2, h3⟩ := hi
  exact ⟨v0, v1, v2, h0.grown hg (fun r e => (hr r e).2), h1.grown hg (fun r e => (hr r e).2), h2.grown hg (fun r e => (hr r e).2), h3⟩
theorem Acc.ints {W : World} {n₀ B : Nat} {zs : List Int} {v : Value} (h : Acc W n₀ B zs v) (hz : zs ≠ []) : ∃ g cap, v = .slice (some ⟨g, 0, none⟩) zs.length cap ∧ g < W.heap.size ∧ IntsAt W g 0 zs := by
  rcases h.2.2.2 with ⟨_, hn⟩ | ⟨g, cap, cur, rfl, _, hgb, _⟩
  · exact absurd (List.eq_nil_of_length_eq_zero hn) hz
  · have hlt := (Array.getElem?_eq_some_iff.1 hgb).1
    refine ⟨g, cap, rfl, hlt, .inr hlt, fun i hi => ?_⟩
    have := h.2.2.cells (g := g) rfl i (encI zs[i]) (by simp [hi])
    rw [Nat.zero_add]
    by_cases h0 : i = 0
    · subst h0; simpa [Addr.add, encI] using this
    · simpa [Addr.add, encI, h0] using this

theorem upto_length (n : Nat) : (upto n).length = n := by simp [upto]
theorem sum_bd {m : Int} (hm : 0 ≤ m) : ∀ (zs : List Int), (∀ z ∈ zs, Bd m z) → Bd (m * zs.length) zs.sum
  | [], _ => by simp [Bd]
  | z :: zs, h => by
    have h1 := h z List.mem_cons_self
    have h2 := sum_bd hm zs (fun y hy => h y (List.mem_cons_of_mem _ hy))
    have := h1.add h2
    rw [List.sum_cons, List.length_cons]
    refine this.mono (Int.le_of_eq ?_)
    rw [Int.natCast_add, Int.mul_add]; simp; omega
theorem bd_len {m : Int} (hm : 0 ≤ m) {zs : List Int} {n : Nat} (h : Bd (m * zs.length) zs.sum) (hn : zs.length ≤ n) : Bd (m * n) zs.sum :=
  h.mono (Int.mul_le_mul_of_nonneg_left (by omega) hm)
theorem sum_upto_bd {ps : List Pt} (ha : areP ps = true) (f : Nat → Int) (m : Int) (hm : 0 ≤ m) (hf : ∀ x, x < ps.length → Bd m (f x)) : Bd (m * 12) ((upto ps.length).map f).sum := by
  refine bd_len hm (sum_bd hm _ (fun z hz => ?_)) (n := 12) (by simp [upto]; exact (areP_len ha).2)
  obtain ⟨x, hx, rfl⟩ := List.mem_map.1 hz
  exact hf x (List.mem_range.1 hx)
/-- what sum makes of a slice -/
structure SumOf (W : World) (v : Value) (X : Int) : Prop where
  call : ∀ n, Calls Try.prog 66 #[v] (W.drewN n) fun e w' => e = .returned (.int .i64 X) ∧ w' = W.drewN n
theorem sumOf_upto {ps : List Pt} (ha : areP ps = true) (f : Nat → Int) (m : Int) (hm : 0 ≤ m) (hf : ∀ x, x < ps.length → Bd m (f x)) {W : World} {g : Nat} (k : Nat) (hi : IntsAt W g 0 ((upto ps.length).map f)) (hM : m ≤ 1000000 := by omega) :
    SumOf W (.slice (some ⟨g, 0, none⟩) ((upto ps.length).map f).length k) ((upto ps.length).map f).sum :=
  ⟨fun n => sum_any _ g 0 k _ (hi.drewN n) (by simp [upto]; have := areP_len ha; omega) (fun j => by
    have h1 := sum_bd hm (((upto ps.length).map f).take j) (fun z hz => by
      obtain ⟨x, hx, rfl⟩ := List.mem_map.1 (List.mem_of_mem_take hz)
      exact hf x (List.mem_range.1 hx))
    have h2 := bd_len hm h1 (n := 12) (by rw [List.length_take]; simp [upto]; have := areP_len ha; omega)
    exact h2.mono (by simp; omega)) (by rw [List.length_map]; simp only [upto, List.length_range]; have := areP_len ha; omega)⟩
theorem crsAt_bd {ps : List Pt} (ha : areP ps = true) {x : Nat} (hx : x < ps.length) : Bd 800 (crsAt ps x) := by
  have n1 := ptAt_bd ha hx
  have n2 := nx_bd ha hx
  exact ((n1.1.mul n2.2).add (n1.2.neg.mul n2.1)).mono (by omega)
theorem xAt_bd {ps : List Pt} (ha : areP ps = true) {x : Nat} (hx : x < ps.length) : Bd 32000 (xAt ps x) :=
  ((crsAt_bd ha hx).mul ((ptAt_bd ha hx).1.add (nx_bd ha hx).1)).mono (by omega)
theorem yAt_bd {ps : List Pt} (ha : areP ps = true) {x : Nat} (hx : x < ps.length) : Bd 32000 (yAt ps x) :=
  ((crsAt_bd ha hx).mul ((ptAt_bd ha hx).2.add (nx_bd ha hx).2)).mono (by omega)
theorem gcdI_bd {B x y : Int} (hx : Bd B x) (hy : Bd B y) : Bd B (gcdI x y) := by
  unfold gcdI
  rw [Bd.abs] at *
  by_cases h : x = 0
  · subst h; simpa using hy
  · have h1 : Int.gcd x y ∣ x.natAbs := Int.gcd_dvd_natAbs_left x y
    have h2 := Nat.le_of_dvd (by omega) h1
    simp; omega
theorem Row.set {w : World} {g : Nat} {E : TypeId} {vs : List Value} (h : Row w g E vs) (i : Nat) (v : Value) : Row (w.setCell ⟨g, i, none⟩ v) g E (vs.set i v) := by
  unfold Row
  have := heap_setCell_same w g i vs.toArray E v h
  rw [this]; simp
theorem cell_one_at (w : World) (x : Value) (t : TypeId) (n : Nat) (hn : w.heap.size = n) : ∀ j u, [x][j]? = some u → (w.alloc (.cells #[x] t)).cell? ((⟨n, 0, none⟩ : Addr).add j) = some u := by
  subst hn; exact cell_one_new w x t
theorem corner_cells {W : World} {Bx : Nat} {v0 v1 v2 v3 v4 v5 : Value} (h : W.heap[Bx]? = some (.cells #[v0, v1, v2, v3, v4, v5] 76 (0, 0))) :
    W.cell? ⟨Bx, 2, none⟩ = some v2 ∧ W.cell? ⟨Bx, 3, none⟩ = some v3 ∧ W.cell? ⟨Bx, 4, none⟩ = some v4 ∧ W.cell? ⟨Bx, 5, none⟩ = some v5 :=
  have hr : Row W Bx 76 [v0, v1, v2, v3, v4, v5] := h
  ⟨hr.cell 2, hr.cell 3, hr.cell 4, hr.cell 5⟩

set_option maxRecDepth 100000 in
set_option maxHeartbeats 1000000 in
theorem middleOf_in (ps : List Pt) (b c : Nat) (w : World) (hp : PtsAt w b 0 ps) (ha : areP ps = true) (hD0 : 0 < area ps) :
    CallsIn Fence.wide 3 Try.prog 99 #[.slice (some ⟨b, 0, none⟩) ps.length c] w fun e w' => e = .returned (.agg #[.int .i64 (mid ps).1, .int .i64 (mid ps).2.1, .int .i64 (mid ps).2.2]) ∧ Below w.heap.size w w' := by
  obtain ⟨h3, h12⟩ := areP_len ha
  obtain ⟨i0, hi, hz0, hz1, hz2⟩ := info_parts info3
  have HA := Lib.hid ha
  refine callsIn_of_wp_marks Try.func99 rfl trivial ?_ rfl
  simp only [Try.ntmps99, List.size_toArray, List.length_cons, List.length_nil, Nat.reduceAdd, Nat.reduceSub, Array.replicate_succ, Array.replicate_zero, List.push_toArray, List.append_toArray, List.nil_append, List.cons_append]
  gi_wp2_with fail
  refine ⟨trivial, ?_⟩
  generalize hB1 : w.heap.size + 1 = B1
  generalize hB2 : B1 + 1 = B2
  generalize hB3 : B2 + 1 = B3
  obtain ⟨W0, hW0⟩ : ∃ W0, W0 = (((w.alloc (.cells #[.int .i64 0, .int .i64 0, .int .i64 0] 29)).alloc (.cells #[.slice none 0 0] 32)).alloc (.cells #[.slice none 0 0] 32)).alloc (.cells #[.slice none 0 0] 32) := ⟨_, rfl⟩
  have B0 : Below w.heap.size w W0 := by rw [hW0]; exact (((Below.refl w.heap.size w).alloc (Nat.le_refl _) _).alloc (by simp) _).alloc (by simp; omega) _ |>.alloc (by simp; omega) _
  have s0 : W0.heap.size = w.heap.size + 4 := by rw [hW0]; simp
  have r0 : W0.heap[w.heap.size]? = some (.cells #[.int .i64 0, .int .i64 0, .int .i64 0] 29 (0, 0)) := by
    rw [hW0]; exact ((Below.heap_alloc _ _ _ (by simp; omega)).trans ((Below.heap_alloc _ _ _ (by simp; omega)).trans ((Below.heap_alloc _ _ _ (by simp)).trans (heap_alloc_new w _))))
  have r1 : Boxed W0 B1 32 (.slice none 0 0) := by
    rw [hW0, ← hB1]
    have := Boxed.new (w.alloc (.cells #[.int .i64 0, .int .i64 0, .int .i64 0] 29)) 32 (.slice none 0 0)
    rw [size_al] at this
    exact (this.alloc _).alloc _
  have r2 : Boxed W0 B2 32 (.slice none 0 0) := by
    rw [hW0, ← hB2, ← hB1]
    have := Boxed.new ((w.alloc (.cells #[.int .i64 0, .int .i64 0, .int .i64 0] 29)).alloc (.cells #[.slice none 0 0] 32)) 32 (.slice none 0 0)
    rw [size_al, size_al] at this
    exact this.alloc _
  have r3 : Boxed W0 B3 32 (.slice none 0 0) := by
    rw [hW0, ← hB3, ← hB2, ← hB1]
    have := Boxed.new (((w.alloc (.cells #[.int .i64 0, .int .i64 0, .int .i64 0] 29)).alloc (.cells #[.slice none 0 0] 32)).alloc (.cells #[.slice none 0 0] 32)) 32 (.slice none 0 0)
    rw [size_al, size_al, size_al] at this
    exact this
  rw [← hW0]
  clear hW0
  refine (callsIn_wide.2 (corners_any _ _ _ _)).mono ?_
  rintro e w2 ⟨rfl, rfl⟩
  obtain ⟨V, hV⟩ : ∃ V, V = W0.alloc (.cells #[.slice (some ⟨b, 0, none⟩) ps.length c] 22) := ⟨_, rfl⟩
  have BV : Below w.heap.size w V := by rw [hV]; exact Below.al B0 (Nat.le_refl _) _
  have sV : V.heap.size = w.heap.size + 5 := by rw [hV]; simp; omega
  have zb : Boxed V W0.heap.size 22 (.slice (some ⟨b, 0, none⟩) ps.length c) := by rw [hV]; exact Boxed.new _ _ _
  have q0 : V.heap[w.heap.size]? = some (.cells #[.int .i64 0, .int .i64 0, .int .i64 0] 29 (0, 0)) := by rw [hV]; exact (Below.heap_alloc _ _ _ (by omega)).trans r0
  have q1 : Acc V w.heap.size B1 [] (.slice none 0 0) := ⟨by omega, by rw [hV]; exact r1.alloc _, World.ownsRow_nil _ _ _ _⟩
  have q2 : Acc V w.heap.size B2 [] (.slice none 0 0) := ⟨by omega, by rw [hV]; exact r2.alloc _, World.ownsRow_nil _ _ _ _⟩
  have q3 : Acc V w.heap.size B3 [] (.slice none 0 0) := ⟨by omega, by rw [hV]; exact r3.alloc _, World.ownsRow_nil _ _ _ _⟩
  have zp := hp.grow BV
  rw [← hV]
  clear hV r0 r1 r2 r3 B0
  have BVh := Lib.hid BV
  have ZP := Lib.hid zp
  have ZB := Lib.hid zb
  have hbl := hp.lt
  have hq := Lib.hid (And.intro q0 (And.intro q1 (And.intro q2 q3)))
  have FA := Lib.hid (And.intro s0 (And.intro sV (And.intro hB1 (And.intro hB2 hB3))))
  clear BV hp zp zb q0 q1 q2 q3 s0 sV hB1 hB2 hB3
  gi_wp2_with fail
  refine range_corners 3 W0.heap.size b c (by omega) ps h3 h12 rfl (by have := FA.out; omega) ZB.out.cell ZP.out
    (fun pre W => (Acc3 W w.heap.size B1 B2 B3 (pre.map (crsAt ps)) (pre.map (xAt ps)) (pre.map (yAt ps)) ∧ (W.heap[W0.heap.size]? = some (.cells #[.slice (some ⟨b, 0, none⟩) ps.length c] 22 (0, 0)) ∧ W.heap[w.heap.size]? = some (.cells #[.int .i64 0, .int .i64 0, .int .i64 0] 29 (0, 0)))) ∧ Below w.heap.size w W)
    (fun _ _ => False)
    (fun _ => ((lasts_acc3 _ _ _ _ _ _ _ _).and ((lasts_heap _ _ _ _).and (lasts_heap _ _ _ _))).and (lasts_below _ _ _ (by have := FA.out; omega) (Nat.le_refl _)))
    (fun _ => fun _ _ _ h _ _ => h)
    ⟨⟨⟨_, _, _, hq.out.2.1, hq.out.2.2.1, hq.out.2.2.2, .inl rfl, .inl rfl, .inl rfl⟩, ZB.out, hq.out.1⟩, BVh.out⟩
    (fun x Bx => { tmps := #[.slice (some ⟨b, 0, none⟩) ps.length c, undef, .pointer (some ⟨w.heap.size, 0, none⟩), .pointer (some ⟨B1, 0, none⟩), .pointer (some ⟨B2, 0, none⟩), .pointer (some ⟨B3, 0, none⟩), undef, .pointer (some ⟨Bx, 0, none⟩), undef, undef, undef, undef, undef, .slice (some ⟨b, 0, none⟩) ps.length c, .func (.func 97) #[] #[.pointer (some ⟨W0.heap.size, 0, none⟩)], .int .i64 (x : Int), .agg (cornerCells ps x), undef, undef, undef, undef, undef, undef, undef, undef, undef, undef, undef, undef, undef, undef, undef, undef, undef, undef, undef, undef, undef, undef, undef, undef, undef, undef, undef, undef, undef, undef, undef, undef, undef, undef, undef, undef, undef, undef, undef, undef, undef, undef, undef, undef, undef, undef, undef, undef, undef, undef, undef, undef, undef, undef, undef], defers := [] }) ?assign ?body ?done ?stop
  case assign =>
    intro l x W K hK
    simp only [cornerCells, List.setIfInBounds_toArray, List.set_cons_succ, List.set_cons_zero] at hK ⊢
    gi_wp2
    exact hK
  case body =>
    rintro l x Bx pre W hx hBx hW hcx ⟨⟨⟨v0, v1, v2, a0, a1, a2, ap01, ap02, ap12⟩, hbs, hres⟩, hB⟩ hlen hpre
    have n1 := ptAt_bd HA.out hx
    have n2 := nx_bd HA.out hx
    have cx : crsAt ps x = crs ((ptAt ps x).1, (ptAt ps x).2) ((nx ps x).1, (nx ps x).2) := rfl
    have x0 : xAt ps x = crs ((ptAt ps x).1, (ptAt ps x).2) ((nx ps x).1, (nx ps x).2) * ((ptAt ps x).1 + (nx ps x).1) := rfl
    have y0 : yAt ps x = crs ((ptAt ps x).1, (ptAt ps x).2) ((nx ps x).1, (nx ps x).2) * ((ptAt ps x).2 + (nx ps x).2) := rfl
    have cb : Bd 800 (crs ((ptAt ps x).1, (ptAt ps x).2) ((nx ps x).1, (nx ps x).2)) := ((n1.1.mul n2.2).add (n1.2.neg.mul n2.1)).mono (by omega)
    have e1 := i64_bd (n1.1.add n2.1) (by omega)
    have e2 := i64_bd (n1.2.add n2.2) (by omega)
    have e3 := i64_bd (cb.mul (n1.1.add n2.1)) (by omega)
    have e4 := i64_bd (cb.mul (n1.2.add n2.2)) (by omega)
    have k1 := Lib.hid (n1.1.mono (C := 100000000) (by omega))
    have k2 := Lib.hid (n1.2.mono (C := 100000000) (by omega))
    have k3 := Lib.hid (n2.1.mono (C := 100000000) (by omega))
    have k4 := Lib.hid (n2.2.mono (C := 100000000) (by omega))
    have CX := Lib.hid cx
    have X0 := Lib.hid x0
    have Y0 := Lib.hid y0
    have HCX := Lib.hid hcx
    have q2 := hcx.c2
    have q3 := hcx.c3
    have q4 := hcx.c4
    have q5 := hcx.c5
    have hlW := hcx.lt
    have PL := Lib.hid hpre
    have HROW := Lib.hid hcx.row
    clear cx x0 y0 n1 n2 cb hcx hpre
    generalize ptAt ps x = pa at *
    generalize nx ps x = pb at *
    generalize pv ps x = pc at *
    gi_wp2_with fail
    refine ⟨trivial, ?_⟩
    refine (CallsIn.inRound l (callsIn_wide.2 (cross_any pa.1 pa.2 pb.1 pb.2 W k1.out k2.out k3.out k4.out))).mono ?_
    rintro e w3 ⟨rfl, hb3⟩
    have A0 := Lib.hid (a0.below hb3)
    have A1 := Lib.hid (a1.below hb3)
    have A2 := Lib.hid (a2.below hb3)
    have R76 := Lib.hid ((hb3.block Bx hlW).trans HROW.out)
    have RB := Lib.hid ((hb3.block _ (Array.getElem?_eq_some_iff.1 hbs).1).trans hbs)
    have R0 := Lib.hid ((hb3.block _ (Array.getElem?_eq_some_iff.1 hres).1).trans hres)
    have HB := Lib.hid (Below.andThen hB hb3 (Nat.le_refl _))
    have KF := Lib.hid (show KeepsFrom V.heap.size W w3 from KeepsFrom.of_grownBy (row := none) ⟨hb3.os, hb3.tape, hb3.output, hb3.size, fun k hk _ => hb3.block k hk⟩ (fun r e => by cases e))
    have hbl2 : b < W.heap.size := by have := FA.out; omega
    have K2 := Lib.hid (hb3.block b hbl2)
    have hs3 := hb3.size
    have c0 := A0.out.2.1.cell
    generalize crs (pa.1, pa.2) (pb.1, pb.2) = cr at *
    have HBS := Lib.hid hbs
    clear hb3 a0 a1 a2 hbs hres hB q2 q3 q4 q5
    have A00 := A0
    have A01 := A1
    have A02 := A2
    have P001 := Lib.hid ap01
    have P010 := Lib.hid ap01.symm
    have P002 := Lib.hid ap02
    have P020 := Lib.hid ap02.symm
    have P012 := Lib.hid ap12
    have P021 := Lib.hid ap12.symm
    have R760 := R76
    have RB0 := RB
    have R00 := R0
    have HB0 := HB
    have KF0 := KF
    have K20 := K2
    obtain ⟨z0, hz0'⟩ : ∃ z, pre.map (crsAt ps) = z := ⟨_, rfl⟩
    obtain ⟨z1, hz1'⟩ : ∃ z, pre.map (xAt ps) = z := ⟨_, rfl⟩
    obtain ⟨z2, hz2'⟩ : ∃ z, pre.map (yAt ps) = z := ⟨_, rfl⟩
    have hl0 : z0.length ≤ 12 := by rw [← hz0', List.length_map]; omega
    have hl1 : z1.length ≤ 12 := by rw [← hz1', List.length_map]; omega
    have hl2 : z2.length ≤ 12 := by rw [← hz2', List.length_map]; omega
    rw [hz0'] at A00
    rw [hz1'] at A01
    rw [hz2'] at A02
    have HZ0 := Lib.hid hz0'
    have HZ1 := Lib.hid hz1'
    have HZ2 := Lib.hid hz2'
    clear hz0' hz1' hz2'
    clear A0 A1 A2 R76 RB R0 HB KF K2 ap01 ap02 ap12
    gi_wp2_with (first | (gi_at_builtin; refine wpListIn_append_own_at _ rfl _ _ 32 rfl w.heap.size 3 i0 (.int .i64 0) 1 8 Try.underlying32 hi hz0 hz1 hz2 rfl (by decide) _ _ _ rfl (A00.out.2.2.alloc _) _ 1 1 [encI (cr)] rfl rfl (cell_one_at _ _ _ _ (by simp)) (by simp [Value.oneCell', encI]) (by unfold maxLen; omega) (by omega) (Nat.le_trans HB0.out.size (by simp)) ?_; intro v' w10 hown' hgrow hat; obtain ⟨g0, cap0, rfl⟩ := ownsRow_succ hown'; obtain ⟨f1, f2, f3, f4, f5, f6, f7⟩ := acc_append (x := cr) _ A00.out HB0.out.size hown' hgrow hat; obtain ⟨h1, p1⟩ := f7 B2 _ _ A01.out (by have := FA.out; omega) P010.out; obtain ⟨h2, p2⟩ := f7 B3 _ _ A02.out (by have := FA.out; omega) P020.out; have A10 := Lib.hid f3; have A11 := Lib.hid h1; have A12 := Lib.hid h2; have P110 := Lib.hid p1; have P101 := Lib.hid p1.symm; have P120 := Lib.hid p2; have P102 := Lib.hid p2.symm; have P112 := P012; have P121 := P021; have R761 := Lib.hid (f6 _ _ _ R760.out (by have := FA.out; omega) (by decide)); have RB1 := Lib.hid (f6 _ _ _ RB0.out (by have := FA.out; omega) (by decide)); have R01 := Lib.hid (f6 _ _ _ R00.out (by have := FA.out; omega) (by decide)); have HB1 := Lib.hid (HB0.out.trans f5); have KF1 := Lib.hid (KF0.out.trans (f4.from _)); have K21 := Lib.hid ((f5.block b hbl).trans K20.out); have c1 := A11.out.2.1.cell; obtain ⟨q2, q3, q4, q5⟩ := corner_cells R761.out; clear A00 A01 A02 hown' hgrow hat f3 f4 f5 f6 f7 h1 p1 h2 p2) | (gi_at_builtin; refine wpListIn_append_own_at _ rfl _ _ 32 rfl w.heap.size 3 i0 (.int .i64 0) 1 8 Try.underlying32 hi hz0 hz1 hz2 rfl (by decide) _ _ _ rfl (A11.out.2.2.alloc _) _ 1 1 [encI (cr * (pa.1 + pb.1))] rfl rfl (cell_one_at _ _ _ _ (by simp)) (by simp [Value.oneCell', encI]) (by unfold maxLen; omega) (by omega) (Nat.le_trans HB1.out.size (by simp)) ?_; intro v' w11 hown' hgrow hat; obtain ⟨g1, cap1, rfl⟩ := ownsRow_succ hown'; obtain ⟨f1, f2, f3, f4, f5, f6, f7⟩ := acc_append (x := cr * (pa.1 + pb.1)) _ A11.out HB1.out.size hown' hgrow hat; obtain ⟨h0, p0⟩ := f7 B1 _ _ A10.out (by have := FA.out; omega) P101.out; obtain ⟨h2, p2⟩ := f7 B3 _ _ A12.out (by have := FA.out; omega) P121.out; have A21 := Lib.hid f3; have A20 := Lib.hid h0; have A22 := Lib.hid h2; have P201 := Lib.hid p0; have P210 := Lib.hid p0.symm; have P202 := P102; have P220 := P120; have P221 := Lib.hid p2; have P212 := Lib.hid p2.symm; have R762 := Lib.hid (f6 _ _ _ R761.out (by have := FA.out; omega) (by decide)); have RB2 := Lib.hid (f6 _ _ _ RB1.out (by have := FA.out; omega) (by decide)); have R02 := Lib.hid (f6 _ _ _ R01.out (by have := FA.out; omega) (by decide)); have HB2 := Lib.hid (HB1.out.trans f5); have KF2 := Lib.hid (KF1.out.trans (f4.from _)); have K22 := Lib.hid ((f5.block b hbl).trans K21.out); have c2 := A22.out.2.1.cell; obtain ⟨q2, q3, q4, q5⟩ := corner_cells R762.out; clear A10 A11 A12 hown' hgrow hat f3 f4 f5 f6 f7 h0 p0 h2 p2) | (gi_at_builtin; refine wpListIn_append_own_at _ rfl _ _ 32 rfl w.heap.size 3 i0 (.int .i64 0) 1 8 Try.underlying32 hi hz0 hz1 hz2 rfl (by decide) _ _ _ rfl (A22.out.2.2.alloc _) _ 1 1 [encI (cr * (pa.2 + pb.2))] rfl rfl (cell_one_at _ _ _ _ (by simp)) (by simp [Value.oneCell', encI]) (by unfold maxLen; omega) (by omega) (Nat.le_trans HB2.out.size (by simp)) ?_; intro v' w12 hown' hgrow hat; obtain ⟨g2, cap2, rfl⟩ := ownsRow_succ hown'; obtain ⟨f1, f2, f3, f4, f5, f6, f7⟩ := acc_append (x := cr * (pa.2 + pb.2)) _ A22.out HB2.out.size hown' hgrow hat; obtain ⟨h0, p0⟩ := f7 B1 _ _ A20.out (by have := FA.out; omega) P202.out; obtain ⟨h1, p1⟩ := f7 B2 _ _ A21.out (by have := FA.out; omega) P212.out; have A32 := Lib.hid f3; have A30 := Lib.hid h0; have A31 := Lib.hid h1; have P301 := P201; have P310 := P210; have P302 := Lib.hid p0; have P320 := Lib.hid p0.symm; have P312 := Lib.hid p1; have P321 := Lib.hid p1.symm; have R763 := Lib.hid (f6 _ _ _ R762.out (by have := FA.out; omega) (by decide)); have RB3 := Lib.hid (f6 _ _ _ RB2.out (by have := FA.out; omega) (by decide)); have R03 := Lib.hid (f6 _ _ _ R02.out (by have := FA.out; omega) (by decide)); have HB3 := Lib.hid (HB2.out.trans f5); have KF3 := Lib.hid (KF2.out.trans (f4.from _)); have K23 := Lib.hid ((f5.block b hbl).trans K22.out); clear A20 A21 A22 hown' hgrow hat f3 f4 f5 f6 f7 h0 p0 h1 p1))
    refine ⟨KF3.out, ⟨KF3.out.size, K23.out, RB3.out.trans HBS.out.symm⟩, ⟨⟨_, _, _, ?_, ?_, ?_, P301.out, P302.out, P312.out⟩, RB3.out, R03.out⟩, HB3.out⟩
    · rw [List.map_append, HZ0.out]; simpa [CX.out] using A30.out
    · rw [List.map_append, HZ1.out]; simpa [X0.out] using A31.out
    · rw [List.map_append, HZ2.out]; simpa [Y0.out] using A32.out
  case done =>
    rintro D W hD ⟨⟨⟨v0, v1, v2, a0, a1, a2, ap01, ap02, ap12⟩, hbs, hres⟩, hB⟩ hK
    have hne : ∀ f : Nat → Int, (upto ps.length).map f ≠ [] := fun f e => by
      have := congrArg List.length e
      rw [List.length_map] at this
      simp only [upto, List.length_range, List.length_nil] at this
      omega
    obtain ⟨g0, k0, rfl, l0, i0'⟩ := a0.ints (hne _)
    obtain ⟨g1, k1, rfl, l1, i1'⟩ := a1.ints (hne _)
    obtain ⟨g2, k2, rfl, l2, i2'⟩ := a2.ints (hne _)
    have F0 := Lib.hid (sumOf_upto HA.out (crsAt ps) 800 (by omega) (fun x hx => crsAt_bd HA.out hx) k0 i0')
    have F1 := Lib.hid (sumOf_upto HA.out (xAt ps) 32000 (by omega) (fun x hx => xAt_bd HA.out hx) k1 i1')
    have F2 := Lib.hid (sumOf_upto HA.out (yAt ps) 32000 (by omega) (fun x hx => yAt_bd HA.out hx) k2 i2')
    have bA := sum_upto_bd HA.out (crsAt ps) 800 (by omega) (fun x hx => crsAt_bd HA.out hx)
    have bX := sum_upto_bd HA.out (xAt ps) 32000 (by omega) (fun x hx => xAt_bd HA.out hx)
    have bY := sum_upto_bd HA.out (yAt ps) 32000 (by omega) (fun x hx => yAt_bd HA.out hx)
    have fin : mid ps = (((upto ps.length).map (xAt ps)).sum.tdiv (gcdI (gcdI ((upto ps.length).map (xAt ps)).sum ((upto ps.length).map (yAt ps)).sum) (3 * ((upto ps.length).map (crsAt ps)).sum)), ((upto ps.length).map (yAt ps)).sum.tdiv (gcdI (gcdI ((upto ps.length).map (xAt ps)).sum ((upto ps.length).map (yAt ps)).sum) (3 * ((upto ps.length).map (crsAt ps)).sum)), (3 * ((upto ps.length).map (crsAt ps)).sum).tdiv (gcdI (gcdI ((upto ps.length).map (xAt ps)).sum ((upto ps.length).map (yAt ps)).sum) (3 * ((upto ps.length).map (crsAt ps)).sum))) := rfl
    have hD' : 0 < ((upto ps.length).map (crsAt ps)).sum := hD0
    have c0 := a0.2.1.cell
    have c1 := a1.2.1.cell
    have c2 := a2.2.1.cell
    have HB := Lib.hid hB
    have HK := Lib.hid hK
    have HD := Lib.hid hD
    have HR := Lib.hid hres
    simp only [List.length_map, upto_length] at c0 c1 c2 F0 F1 F2 ⊢
    generalize ((upto ps.length).map (xAt ps)).sum = X at *
    generalize ((upto ps.length).map (yAt ps)).sum = Y at *
    generalize ((upto ps.length).map (crsAt ps)).sum = A at *
    have e1 : IntKind.i64.wrap (3 * A) = 3 * A := i64_bd (B := 1000000) (by unfold Bd at *; omega) (by omega)
    have bD : Bd 30000 (3 * A) := by unfold Bd at *; omega
    have hG := gcdI_pos (n := gcdI X Y) (show 0 < 3 * A by omega)
    have bG : Bd 1000000 (gcdI X Y) := gcdI_bd (bX.mono (by omega)) (bY.mono (by omega))
    have HG1 := Lib.hid (gcd_any X Y)
    have HG2 := Lib.hid (gcd_any (gcdI X Y) (3 * A))
    have J1 := Lib.hid (bX.mono (C := 4000000000000000000) (by omega))
    have J2 := Lib.hid (bY.mono (C := 4000000000000000000) (by omega))
    have J3 := Lib.hid (bG.mono (C := 4000000000000000000) (by omega))
    have J4 := Lib.hid (bD.mono (C := 4000000000000000000) (by omega))
    generalize gcdI (gcdI X Y) (3 * A) = G at *
    generalize gcdI X Y = G1 at *
    have t1 : IntKind.i64.wrap (X.tdiv G) = X.tdiv G := i64_bd bX.tdiv (by omega)
    have t2 : IntKind.i64.wrap (Y.tdiv G) = Y.tdiv G := i64_bd bY.tdiv (by omega)
    have t3 : IntKind.i64.wrap ((3 * A).tdiv G) = (3 * A).tdiv G := i64_bd bD.tdiv (by omega)
    have t4 : ¬ G = 0 := by omega
    have t5 : (G == 0) = false := beq_eq_false_iff_ne.2 t4
    have Fin := Lib.hid fin
    clear fin a0 a1 a2 hbs hres hB hK hD i0' i1' i2' bA bX bY bG bD hD' l0 l1 l2 ap01 ap02 ap12 hne hG
    gi_wp2_with fail
    refine wpIn_region_quiet_lit rfl (by kernel_rfl) (by kernel_rfl) ?_
    repeat (first
      | gi_big_quiet_step (fail)
      | (refine wpQuietIn_step (fun _ _ _ _ => trivial) (fun K hK => ?_)
         go_simp
         apply Exists.intro
         refine ⟨fun _ => ?_, hK _ ?_⟩
         · exact CallsIn.quiet_of_same (callsIn_wide.2 (SumOf.call (by first | exact F0.out | exact F1.out | exact F2.out) _))
         clear hK K))
    refine wpQuietIn_nil ?_
    rintro _ ⟨nq, rfl⟩
    gi_wp2_with fail
    refine ⟨trivial, ?_⟩
    refine (callsIn_wide.2 (HG1.out _ J1.out J2.out)).mono ?_
    rintro e w3 ⟨rfl, m1, rfl⟩
    gi_wp2_with fail
    refine ⟨trivial, ?_⟩
    refine (callsIn_wide.2 (HG2.out _ J3.out J4.out)).mono ?_
    rintro e w4 ⟨rfl, m2, rfl⟩
    have rr : Row W w.heap.size 29 [.int .i64 0, .int .i64 0, .int .i64 0] := HR.out
    have rc0 := rr.cell 0
    have rc1 := rr.cell 1
    have rc2 := rr.cell 2
    have rf0 := frozen_of_row W w.heap.size 0 _ _ rr
    have rf1 := frozen_of_row W w.heap.size 1 _ _ rr
    have rf2 := frozen_of_row W w.heap.size 2 _ _ rr
    have RR := Lib.hid rr
    simp only [List.getElem?_cons_zero, List.getElem?_cons_succ] at rc0 rc1 rc2
    clear rr
    gi_wp2_with fail
    gi_region
    gi_wp2_with fail
    rw [Fin.out]
    have hrow : Row ((((W.drewN (nq + m1 + m2 + 1)).setCell ⟨w.heap.size, 0, none⟩ (.int .i64 (X.tdiv G))).setCell ⟨w.heap.size, 1, none⟩ (.int .i64 (Y.tdiv G))).setCell ⟨w.heap.size, 2, none⟩ (.int .i64 ((3 * A).tdiv G))) w.heap.size 29 [.int .i64 (X.tdiv G), .int .i64 (Y.tdiv G), .int .i64 ((3 * A).tdiv G)] := by
      have h0 : Row (W.drewN (nq + m1 + m2 + 1)) w.heap.size 29 [.int .i64 0, .int .i64 0, .int .i64 0] := RR.out
      simpa using ((h0.set 0 (.int .i64 (X.tdiv G))).set 1 (.int .i64 (Y.tdiv G))).set 2 (.int .i64 ((3 * A).tdiv G))
    have hbel : Below w.heap.size w ((((W.drewN (nq + m1 + m2 + 1)).setCell ⟨w.heap.size, 0, none⟩ (.int .i64 (X.tdiv G))).setCell ⟨w.heap.size, 1, none⟩ (.int .i64 (Y.tdiv G))).setCell ⟨w.heap.size, 2, none⟩ (.int .i64 ((3 * A).tdiv G))) :=
      (((below_drewN HB.out _).setCell (p := ⟨w.heap.size, 0, none⟩) (Nat.le_refl _) _).setCell (p := ⟨w.heap.size, 1, none⟩) (Nat.le_refl _) _).setCell (p := ⟨w.heap.size, 2, none⟩) (Nat.le_refl _) _
    have hko : (((((W.drewN (nq + m1 + m2 + 1)).setCell ⟨w.heap.size, 0, none⟩ (.int .i64 (X.tdiv G))).setCell ⟨w.heap.size, 1, none⟩ (.int .i64 (Y.tdiv G))).setCell ⟨w.heap.size, 2, none⟩ (.int .i64 ((3 * A).tdiv G)))).heap[D]? = some (.deferred (some [])) :=
      (KeepsOthers.setCell _ _ _).same D _ ((KeepsOthers.setCell _ _ _).same D _ ((KeepsOthers.setCell _ _ _).same D _ (show (W.drewN (nq + m1 + m2 + 1)).heap[D]? = _ from HK.out) rfl) rfl) rfl
    generalize (((W.drewN (nq + m1 + m2 + 1)).setCell ⟨w.heap.size, 0, none⟩ (.int .i64 (X.tdiv G))).setCell ⟨w.heap.size, 1, none⟩ (.int .i64 (Y.tdiv G))).setCell ⟨w.heap.size, 2, none⟩ (.int .i64 ((3 * A).tdiv G)) = WF at hrow hbel hko ⊢
    refine ⟨by simp, .inl ⟨_, _, rfl, run_takeDeferred hko, ?_⟩⟩
    have hrow2 : Row (WF.putObj D (.deferred none)) w.heap.size 29 [.int .i64 (X.tdiv G), .int .i64 (Y.tdiv G), .int .i64 ((3 * A).tdiv G)] := lasts_heap V.heap.size _ _ _ _ _ (some D) hrow (grownBy_putObj' _ D _) (fun r e => by cases e; exact ⟨HD.out, _, hko, rfl⟩)
    have v0 := hrow2.cell 0
    have v1 := hrow2.cell 1
    have v2 := hrow2.cell 2
    simp only [List.getElem?_cons_zero, List.getElem?_cons_succ] at v0 v1 v2
    refine ⟨.agg #[.int .i64 (X.tdiv G), .int .i64 (Y.tdiv G), .int .i64 ((3 * A).tdiv G)], by simp [results, Try.results99, go_sem, v0, v1, v2], rfl, below_put hbel ?_ hko _⟩
    have := HD.out
    have := FA.out
    omega
  case stop =>
    rintro D c W hD h _
    exact h.elim
end Go.Proofs.Ytlehddifcjklgaa
