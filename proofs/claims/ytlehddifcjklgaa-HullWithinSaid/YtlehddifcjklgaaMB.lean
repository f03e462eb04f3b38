import Derived.Test.YtlehddifcjklgaaMA
import Derived.Maps.OwnIn
import Derived.Maps.OwnSet
import Derived.Maps.AppendAt
import Derived.RangeFuncNested
import Derived.RangeFuncBound
import Derived.RangeFuncCalls
import Derived.RangeFuncLeaves
import Derived.Shelf.Abstract
import Derived.Shelf.RegionOpen
import Derived.WalkKit
import Derived.OwnWalkIn
import Derived.TacticsInMore
import Derived.LoopNIn
import Derived.LoopIn
import Derived.Sort.QuietThIn
import Derived.Sort.QuietTacIn
import Derived.Sort.BigQuietIn
import Derived.WalkSpells
import Derived.WalkLawsBesides
import Derived.BigQuiet
import Derived.Deep.QuietTactic
import Derived.Lib.Hide
import Derived.Deep.RegionHeld3
import Derived.StillTailTactics
import Derived.Deep.LoopGhost
import Derived.Lib.IndexAny
import Derived.WalkMore
namespace Go.Proofs.Ytlehddifcjklgaa
open Go.RowKit Go.Shelf
attribute [local go_sem] Oper.semAt_some

theorem info3 : (Try.prog.info? 3).map (fun i => (i.zero, i.size, i.bytes)) = some (some (.int .i64 0), 1, 8) := by kernel_rfl
/-- two slices of the call's own do not lie in one row -/
def Apart (u v : Value) : Prop := u.ownBlock = none ∨ v.ownBlock = none ∨ u.ownBlock ≠ v.ownBlock
theorem Apart.symm {u v : Value} (h : Apart u v) : Apart v u := by
  rcases h with h | h | h
  · exact .inr (.inl h)
  · exact .inl h
  · exact .inr (.inr (Ne.symm h))
theorem own_lt {W : World} {n₀ e k s : Nat} {u : Value} {xs : List Value} (h : W.ownsRow n₀ e s u k xs) : ∀ g, u.ownBlock = some g → g < W.heap.size := by
  intro g hg
  rcases h.2 with ⟨rfl, _⟩ | ⟨g', cap, cur, rfl, _, hgb, _⟩
  · simp [Value.ownBlock] at hg
  · simp [Value.ownBlock] at hg
    subst hg
    exact (Array.getElem?_eq_some_iff.1 hgb).1
theorem ownsRow_kind {W : World} {n₀ e k s : Nat} {u : Value} {xs : List Value} (h : W.ownsRow n₀ e s u k xs) : ∀ g, u.ownBlock = some g → ∃ c fz, W.heap[g]? = some (.cells c e fz) := by
  intro g hg
  rcases h.2 with ⟨rfl, _⟩ | ⟨g', cap, cur, rfl, _, hgb, _⟩
  · simp [Value.ownBlock] at hg
  · simp [Value.ownBlock] at hg
    subst hg
    exact ⟨_, _, hgb⟩
/-- the accumulator in box B holds zs -/
def Acc (W : World) (n₀ B : Nat) (zs : List Int) (v : Value) : Prop := n₀ ≤ B ∧ Boxed W B 32 v ∧ W.ownsRow n₀ 3 1 v zs.length (zs.map encI)
theorem acc_append {W w1 : World} {n₀ Bk : Nat} {zs : List Int} {x : Int} {vk v' : Value} (tmp : Obj) (ha : Acc W n₀ Bk zs vk) (hn : n₀ ≤ W.heap.size)
    (hown' : w1.ownsRow n₀ 3 1 v' (zs.length + 1) (zs.map encI ++ [encI x])) (hg : (W.alloc tmp).grownBy w1 vk.ownBlock) (hat : v'.ownBlock = vk.ownBlock ∨ v'.ownBlock = some (W.alloc tmp).heap.size) :
    w1.cell? ⟨Bk, 0, none⟩ = some vk ∧ w1.frozen? ⟨Bk, 0, none⟩ = false ∧
    Acc (w1.setCell ⟨Bk, 0, none⟩ v') n₀ Bk (zs ++ [x]) v' ∧ KeepsOthers W (w1.setCell ⟨Bk, 0, none⟩ v') ∧ Below n₀ W (w1.setCell ⟨Bk, 0, none⟩ v') ∧
    (∀ g cs t, W.heap[g]? = some (.cells cs t (0, 0)) → g ≠ Bk → t ≠ 3 → (w1.setCell ⟨Bk, 0, none⟩ v').heap[g]? = some (.cells cs t (0, 0))) ∧
    (∀ B ys u, Acc W n₀ B ys u → B ≠ Bk → Apart u vk → Acc (w1.setCell ⟨Bk, 0, none⟩ v') n₀ B ys u ∧ Apart u v') := by
  obtain ⟨hB, hk, hr⟩ := ha
  obtain ⟨h1, h2, h3, h4, h5⟩ := hk.appended (by decide) hr hn hB hown' hg
  have hrow : ∀ g cs t, W.heap[g]? = some (.cells cs t (0, 0)) → g ≠ Bk → t ≠ 3 → (w1.setCell ⟨Bk, 0, none⟩ v').heap[g]? = some (.cells cs t (0, 0)) := fun g cs t hgt hne ht => by
    have hlt : g < W.heap.size := (Array.getElem?_eq_some_iff.1 hgt).1
    have a1 : (W.alloc tmp).heap[g]? = some (.cells cs t (0, 0)) := (Below.heap_alloc W tmp g hlt).trans hgt
    have a2 : w1.heap[g]? = some (.cells cs t (0, 0)) := (hg.block g (by simp; omega) (fun e => by
      obtain ⟨c, fz, hk2⟩ := ownsRow_kind hr g e.symm
      rw [hgt] at hk2; cases hk2; exact ht rfl)).trans a1
    exact ((grownBy_setCell' w1 Bk v').block g (by have := hg.size; simp at this; omega) (fun e => hne (by cases e; rfl))).trans a2
  have hbox : ∀ B t u, Boxed W B t u → B ≠ Bk → t ≠ 3 → Boxed (w1.setCell ⟨Bk, 0, none⟩ v') B t u := fun B t u hu hne ht => hrow B _ t hu hne ht
  refine ⟨h1.cell, h1.frozen, ⟨hB, h2, by simpa using h3⟩, h4, h5, hrow, fun B ys u hu hne hap => ?_⟩
  obtain ⟨hB', hub, hur⟩ := hu
  have b1 : (W.alloc tmp).ownsRow n₀ 3 1 u ys.length (ys.map encI) := hur.alloc tmp
  have b2 : w1.ownsRow n₀ 3 1 u ys.length (ys.map encI) := b1.kept hg (by
    rcases hap with h | h | h
    · exact .inl h
    · cases hu2 : u.ownBlock with
      | none => exact .inl rfl
      | some g => right; rw [h]; simp
    · exact .inr h)
  have b3 : (w1.setCell ⟨Bk, 0, none⟩ v').ownsRow n₀ 3 1 u ys.length (ys.map encI) := ownsRow_setCell_other b2 (fun e => by
    have := hk.not_row (t := 32) (by decide) hur
    exact this e.symm) v'
  refine ⟨⟨hB', hbox B 32 u hub hne (by decide), b3⟩, ?_⟩
  rcases hat with h | h
  · unfold Apart; rw [h]; exact hap
  · cases hu2 : u.ownBlock with
    | none => exact .inl hu2
    | some g =>
      refine .inr (.inr ?_)
      rw [hu2, h]
      have := own_lt hur g hu2
      simp; omega
theorem wpListIn_append_own_at {F : Fence} {n : Nat} {P : Program} (w : World) {ops : Array Oper} {rest : List Oper} {o : Oper} {a : Act} {Q : Exit → Act → World → Prop}
    (hg : o.guard = none) (s x : Operand) (t : TypeId) (hop : o.op = Op.call { callee := Callee.builtin Builtin.append, args := #[s, x], argTypes := #[t, t] })
    (base : Nat) (e : TypeId) (i : TypeInfo) (z : Value) (size bytes : Nat) (h1 : P.underlying t = some (.slice e)) (h2 : P.info? e = some i) (h3 : i.zero = some z) (h4 : i.size = size) (h5 : i.bytes = bytes) (h6 : z.cells.size = size) (h7 : 0 < size)
    (v : Value) (k : Nat) (xs : List Value) (hs : a.eval s = v) (hown : w.ownsRow base e size v k xs) (ad : Addr) (m c : Nat) (news : List Value) (hx : a.eval x = .slice (some ad) m c) (hn : news.length = m * size)
    (hc : ∀ j u, news[j]? = some u → w.cell? (ad.add j) = some u) (h1c : ∀ u ∈ news, u.oneCell' = true) (b1 : k + m ≤ maxLen) (b2 : (k + m) * bytes ≤ 140737488355328) (b3 : base ≤ w.heap.size)
    (hK : ∀ v' w', w'.ownsRow base e size v' (k + m) (xs ++ news) → w.grownBy w' v.ownBlock → (v'.ownBlock = v.ownBlock ∨ v'.ownBlock = some w.heap.size) → wpListIn F n P ops Q rest (a.put o.dst v') w') :
    wpListIn F n P ops Q (o :: rest) a w := by
  refine wpListIn_plain hg fun K hK' => ?_
  obtain ⟨v', w', hrun, r1, r2, _, r4⟩ := run_append_own_at (P := P) w base t o.type e i z size bytes h1 h2 h3 h4 h5 h6 h7 v k xs hown ad m c news hn hc h1c b1 b2 b3
  unfold Oper.wpIn
  refine ⟨?_, ?_⟩
  · simp [Oper.about, hop, resolve, Target.leads, Sem.run_pure]
  · rw [Oper.semAt_plain F _ _ (by rw [hop]; intro c hc'; cases hc')]
    simp [execOp, hop, resolve, invoke, builtin, hs, hx, hrun, Result.andThen]
    exact hK' _ _ (hK v' w' r1 r2 r4)

theorem lasts_heap (B g : Nat) (cs : Array Value) (t : TypeId) : Lasts B (fun W => W.heap[g]? = some (.cells cs t (0, 0))) := fun W W' row hi hg hr => by
  show W'.heap[g]? = _
  rw [hg.block g (Array.getElem?_eq_some_iff.1 hi).1 (fun e => by
    obtain ⟨_, o, ho, hc⟩ := hr g e.symm
    rw [hi] at ho; cases ho; cases hc)]
  exact hi
theorem Acc.grown {W W' : World} {n₀ B : Nat} {zs : List Int} {v : Value} {row : Option Nat} (h : Acc W n₀ B zs v) (hg : W.grownBy W' row) (hr : ∀ r, row = some r → ∃ o : Obj, W.heap[r]? = some o ∧ o.isCells = false) : Acc W' n₀ B zs v :=
  ⟨h.1, h.2.1.kept hg (fun e => by
    obtain ⟨o, ho, hc⟩ := hr B e.symm
    rw [show W.heap[B]? = _ from h.2.1] at ho; cases ho; cases hc), h.2.2.kept hg (by
    cases hv : v.ownBlock with
    | none => exact .inl rfl
    | some g =>
      right; intro e
      obtain ⟨o, ho, hc⟩ := hr g e.symm
      obtain ⟨c, fz, hk⟩ := ownsRow_kind h.2.2 g hv
      rw [hk] at ho; cases ho; cases hc)⟩
theorem Acc.below {W W' : World} {n₀ B : Nat} {zs : List Int} {v : Value} (h : Acc W n₀ B zs v) (hb : Below W.heap.size W W') : Acc W' n₀ B zs v :=
  h.grown (row := none) ⟨hb.os, hb.tape, hb.output, hb.size, fun k hk _ => hb.block k hk⟩ (fun r e => by cases e)
def Acc3 (W : World) (n₀ B0 B1 B2 : Nat) (z0 z1 z2 : List Int) : Prop :=
  ∃ v0 v1 v2, Acc W n₀ B0 z0 v0 ∧ Acc W n₀ B1 z1 v1 ∧ Acc W n₀ B2 z2 v2 ∧ Apart v0 v1 ∧ Apart v0 v2 ∧ Apart v1 v2
theorem lasts_acc3 (B n₀ B0 B1 B2 : Nat) (z0 z1 z2 : List Int) : Lasts B (fun W => Acc3 W n₀ B0 B1 B2 z0 z1 z2) := fun W W' row hi hg hr => by
  obtain ⟨v0, v1, v2, h0, h1, h2, h3⟩ := hi
  exact ⟨v0, v1, v2, h0.grown hg (fun r e => (hr r e).2), h1.grown hg (fun r e => (hr r e).2), h2.grown hg (fun r e => (hr r e).2), h3⟩
theorem Acc.ints {W : World} {n₀ B : Nat} {zs : List Int} {v : Value} (h : Acc W n₀ B zs v) (hz : zs ≠ []) : ∃ g cap, v = .slice (some ⟨g, 0, none⟩) zs.length cap ∧ g < W.heap.size ∧ IntsAt W g 0 zs := by
  rcases h.2.2.2 with ⟨_, hn⟩ | ⟨g, cap, cur, rfl, _, hgb, _⟩
  · exact absurd (List.eq_nil_of_length_eq_zero hn) hz
  · have hlt := (Array.getElem?_eq_some_iff.1 hgb).1
    refine ⟨g, cap, rfl, hlt, .inr hlt, fun i hi => ?_⟩
    have := h.2.2.cells (g := g) rfl i (encI zs[i]) (by simp [hi])
    rw [Nat.zero_add]
    by_cases h0 : i = 0
    · subst h0; simpa [Addr.add, encI] using this
    · simpa [Addr.add, encI, h0] using this

theorem upto_length (n : Nat) : (upto n).length = n := by simp [upto]
theorem sum_bd {m : Int} (hm : 0 ≤ m) : ∀ (zs : List Int), (∀ z ∈ zs, Bd m z) → Bd (m * zs.length) zs.sum
  | [], _ => by simp [Bd]
  | z :: zs, h => by
    have h1 := h z List.mem_cons_self
    have h2 := sum_bd hm zs (fun y hy => h y (List.mem_cons_of_mem _ hy))
    have := h1.add h2
    rw [List.sum_cons, List.length_cons]
    refine this.mono (Int.le_of_eq ?_)
    rw [Int.natCast_add, Int.mul_add]; simp; omega
theorem bd_len {m : Int} (hm : 0 ≤ m) {zs : List Int} {n : Nat} (h : Bd (m * zs.length) zs.sum) (hn : zs.length ≤ n) : Bd (m * n) zs.sum :=
  h.mono (Int.mul_le_mul_of_nonneg_left (by omega) hm)
theorem sum_upto_bd {ps : List Pt} (ha : areP ps = true) (f : Nat → Int) (m : Int) (hm : 0 ≤ m) (hf : ∀ x, x < ps.length → Bd m (f x)) : Bd (m * 12) ((upto ps.length).map f).sum := by
  refine bd_len hm (sum_bd hm _ (fun z hz => ?_)) (n := 12) (by simp [upto]; exact (areP_len ha).2)
  obtain ⟨x, hx, rfl⟩ := List.mem_map.1 hz
  exact hf x (List.mem_range.1 hx)
/-- what sum makes of a slice -/
structure SumOf (W : World) (v : Value) (X : Int) : Prop where
  call : ∀ n, Calls Try.prog 66 #[v] (W.drewN n) fun e w' => e = .returned (.int .i64 X) ∧ w' = W.drewN n
theorem sumOf_upto {ps : List Pt} (ha : areP ps = true) (f : Nat → Int) (m : Int) (hm : 0 ≤ m) (hf : ∀ x, x < ps.length → Bd m (f x)) {W : World} {g : Nat} (k : Nat) (hi : IntsAt W g 0 ((upto ps.length).map f)) (hM : m ≤ 1000000 := by omega) :
    SumOf W (.slice (some ⟨g, 0, none⟩) ((upto ps.length).map f).length k) ((upto ps.length).map f).sum :=
  ⟨fun n => sum_any _ g 0 k _ (hi.drewN n) (by simp [upto]; have := areP_len ha; omega) (fun j => by
    have h1 := sum_bd hm (((upto ps.length).map f).take j) (fun z hz => by
      obtain ⟨x, hx, rfl⟩ := List.mem_map.1 (List.mem_of_mem_take hz)
      exact hf x (List.mem_range.1 hx))
    have h2 := bd_len hm h1 (n := 12) (by rw [List.length_take]; simp [upto]; have := areP_len ha; omega)
    exact h2.mono (by simp; omega)) (by rw [List.length_map]; simp only [upto, List.length_range]; have := areP_len ha; omega)⟩
theorem crsAt_bd {ps : List Pt} (ha : areP ps = true) {x : Nat} (hx : x < ps.length) : Bd 800 (crsAt ps x) := by
  have n1 := ptAt_bd ha hx
  have n2 := nx_bd ha hx
  exact ((n1.1.mul n2.2).add (n1.2.neg.mul n2.1)).mono (by omega)
theorem xAt_bd {ps : List Pt} (ha : areP ps = true) {x : Nat} (hx : x < ps.length) : Bd 32000 (xAt ps x) :=
  ((crsAt_bd ha hx).mul ((ptAt_bd ha hx).1.add (nx_bd ha hx).1)).mono (by omega)
theorem yAt_bd {ps : List Pt} (ha : areP ps = true) {x : Nat} (hx : x < ps.length) : Bd 32000 (yAt ps x) :=
  ((crsAt_bd ha hx).mul ((ptAt_bd ha hx).2.add (nx_bd ha hx).2)).mono (by omega)
theorem gcdI_bd {B x y : Int} (hx : Bd B x) (hy : Bd B y) : Bd B (gcdI x y) := by
  unfold gcdI
  rw [Bd.abs] at *
  by_cases h : x = 0
  · subst h; simpa using hy
  · have h1 : Int.gcd x y ∣ x.natAbs := Int.gcd_dvd_natAbs_left x y
    have h2 := Nat.le_of_dvd (by omega) h1
    simp; omega
theorem Row.set {w : World} {g : Nat} {E : TypeId} {vs : List Value} (h : Row w g E vs) (i : Nat) (v : Value) : Row (w.setCell ⟨g, i, none⟩ v) g E (vs.set i v) := by
  unfold Row
  have := heap_setCell_same w g i vs.toArray E v h
  rw [this]; simp
theorem cell_one_at (w : World) (x : Value) (t : TypeId) (n : Nat) (hn : w.heap.size = n) : ∀ j u, [x][j]? = some u → (w.alloc (.cells #[x] t)).cell? ((⟨n, 0, none⟩ : Addr).add j) = some u := by
  subst hn; exact cell_one_new w x t
theorem corner_cells {W : World} {Bx : Nat} {v0 v1 v2 v3 v4 v5 : Value} (h : W.heap[Bx]? = some (.cells #[v0, v1, v2, v3, v4, v5] 76 (0, 0))) :
    W.cell? ⟨Bx, 2, none⟩ = some v2 ∧ W.cell? ⟨Bx, 3, none⟩ = some v3 ∧ W.cell? ⟨Bx, 4, none⟩ = some v4 ∧ W.cell? ⟨Bx, 5, none⟩ = some v5 :=
  have hr : Row W Bx 76 [v0, v1, v2, v3, v4, v5] := h
  ⟨hr.cell 2, hr.cell 3, hr.cell 4, hr.cell 5⟩

set_option maxRecDepth 100000 in
set_option maxHeartbeats 1000000 in
theorem middleOf_in (ps : List Pt) (b c : Nat) (w : World) (hp : PtsAt w b 0 ps) (ha : areP ps = true) (hD0 : 0 < area ps) :
    CallsIn Fence.wide 3 Try.prog 99 #[.slice (some ⟨b, 0, none⟩) ps.length c] w fun e w' => e = .returned (.agg #[.int .i64 (mid ps).1, .int .i64 (mid ps).2.1, .int .i64 (mid ps).2.2]) ∧ Below w.heap.size w w' := by
  obtain ⟨h3, h12⟩ := areP_len ha
  obtain ⟨i0, hi, hz0, hz1, hz2⟩ := info_parts info3
  have HA := Lib.hid ha
  refine callsIn_of_wp_marks Try.func99 rfl trivial ?_ rfl
  simp only [Try.ntmps99, List.size_toArray, List.length_cons, List.length_nil, Nat.reduceAdd, Nat.reduceSub, Array.replicate_succ, Array.replicate_zero, List.push_toArray, List.append_toArray, List.nil_append, List.cons_append]
  gi_wp2_with fail
  refine ⟨trivial, ?_⟩
  generalize hB1 : w.heap.size + 1 = B1
  generalize hB2 : B1 + 1 = B2
  generalize hB3 : B2 + 1 = B3
  obtain ⟨W0, hW0⟩ : ∃ W0, W0 = (((w.alloc (.cells #[.int .i64 0, .int .i64 0, .int .i64 0] 29)).alloc (.cells #[.slice none 0 0] 32)).alloc (.cells #[.slice none 0 0] 32)).alloc (.cells #[.slice none 0 0] 32) := ⟨_, rfl⟩
  have B0 : Below w.heap.size w W0 := by rw [hW0]; exact (((Below.refl w.heap.size w).alloc (Nat.le_refl _) _).alloc (by simp) _).alloc (by simp; omega) _ |>.alloc (by simp; omega) _
  have s0 : W0.heap.size = w.heap.size + 4 := by rw [hW0]; simp
  have r0 : W0.heap[w.heap.size]? = some (.cells #[.int .i64 0, .int .i64 0, .int .i64 0] 29 (0, 0)) := by
    rw [hW0]; exact ((Below.heap_alloc _ _ _ (by simp; omega)).trans ((Below.heap_alloc _ _ _ (by simp; omega)).trans ((Below.heap_alloc _ _ _ (by simp)).trans (heap_alloc_new w _))))
  have r1 : Boxed W0 B1 32 (.slice none 0 0) := by
    rw [hW0, ← hB1]
    have := Boxed.new (w.alloc (.cells #[.int .i64 0, .int .i64 0, .int .i64 0] 29)) 32 (.slice none 0 0)
    rw [size_al] at this
    exact (this.alloc _).alloc _
  have r2 : Boxed W0 B2 32 (.slice none 0 0) := by
    rw [hW0, ← hB2, ← hB1]
    have := Boxed.new ((w.alloc (.cells #[.int .i64 0, .int .i64 0, .int .i64 0] 29)).alloc (.cells #[.slice none 0 0] 32)) 32 (.slice none 0 0)
    rw [size_al, size_al] at this
    exact this.alloc _
  have r3 : Boxed W0 B3 32 (.slice none 0 0) := by
    rw [hW0, ← hB3, ← hB2, ← hB1]
    have := Boxed.new (((w.alloc (.cells #[.int .i64 0, .int .i64 0, .int .i64 0] 29)).alloc (.cells #[.slice none 0 0] 32)).alloc (.cells #[.slice none 0 0] 32)) 32 (.slice none 0 0)
    rw [size_al, size_al, size_al] at this
    exact this
  rw [← hW0]
  clear hW0
  refine (callsIn_wide.2 (corners_any _ _ _ _)).mono ?_
  rintro e w2 ⟨rfl, rfl⟩
  obtain ⟨V, hV⟩ : ∃ V, V = W0.alloc (.cells #[.slice (some ⟨b, 0, none⟩) ps.length c] 22) := ⟨_, rfl⟩
  have BV : Below w.heap.size w V := by rw [hV]; exact Below.al B0 (Nat.le_refl _) _
  have sV : V.heap.size = w.heap.size + 5 := by rw [hV]; simp; omega
  have zb : Boxed V W0.heap.size 22 (.slice (some ⟨b, 0, none⟩) ps.length c) := by rw [hV]; exact Boxed.new _ _ _
  have q0 : V.heap[w.heap.size]? = some (.cells #[.int .i64 0, .int .i64 0, .int .i64 0] 29 (0, 0)) := by rw [hV]; exact (Below.heap_alloc _ _ _ (by omega)).trans r0
  have q1 : Acc V w.heap.size B1 [] (.slice none 0 0) := ⟨by omega, by rw [hV]; exact r1.alloc _, World.ownsRow_nil _ _ _ _⟩
  have q2 : Acc V w.heap.size B2 [] (.slice none 0 0) := ⟨by omega, by rw [hV]; exact r2.alloc _, World.ownsRow_nil _ _ _ _⟩
  have q3 : Acc V w.heap.size B3 [] (.slice none 0 0) := ⟨by omega, by rw [hV]; exact r3.alloc _, World.ownsRow_nil _ _ _ _⟩
  have zp := hp.grow BV
  rw [← hV]
  clear hV r0 r1 r2 r3 B0
  have BVh := Lib.hid BV
  have ZP := Lib.hid zp
  have ZB := Lib.hid zb
  have hbl := hp.lt
  have hq := Lib.hid (And.intro q0 (And.intro q1 (And.intro q2 q3)))
  have FA := Lib.hid (And.intro s0 (And.intro sV (And.intro hB1 (And.intro hB2 hB3))))
  clear BV hp zp zb q0 q1 q2 q3 s0 sV hB1 hB2 hB3
  gi_wp2_with fail
  refine range_corners 3 W0.heap.size b c (by omega) ps h3 h12 rfl (by have := FA.out; omega) ZB.out.cell ZP.out
    (fun pre W => (Acc3 W w.heap.size B1 B2 B3 (pre.map (crsAt ps)) (pre.map (xAt ps)) (pre.map (yAt ps)) ∧ (W.heap[W0.heap.size]? = some (.cells #[.slice (some ⟨b, 0, none⟩) ps.length c] 22 (0, 0)) ∧ W.heap[w.heap.size]? = some (.cells #[.int .i64 0, .int .i64 0, .int .i64 0] 29 (0, 0)))) ∧ Below w.heap.size w W)
    (fun _ _ => False)
    (fun _ => ((lasts_acc3 _ _ _ _ _ _ _ _).and ((lasts_heap _ _ _ _).and (lasts_heap _ _ _ _))).and (lasts_below _ _ _ (by have := FA.out; omega) (Nat.le_refl _)))
    (fun _ => fun _ _ _ h _ _ => h)
    ⟨⟨⟨_, _, _, hq.out.2.1, hq.out.2.2.1, hq.out.2.2.2, .inl rfl, .inl rfl, .inl rfl⟩, ZB.out, hq.out.1⟩, BVh.out⟩
    (fun x Bx => { tmps := #[.slice (some ⟨b, 0, none⟩) ps.length c, undef, .pointer (some ⟨w.heap.size, 0, none⟩), .pointer (some ⟨B1, 0, none⟩), .pointer (some ⟨B2, 0, none⟩), .pointer (some ⟨B3, 0, none⟩), undef, .pointer (some ⟨Bx, 0, none⟩), undef, undef, undef, undef, undef, .slice (some ⟨b, 0, none⟩) ps.length c, .func (.func 97) #[] #[.pointer (some ⟨W0.heap.size, 0, none⟩)], .int .i64 (x : Int), .agg (cornerCells ps x), undef, undef, undef, undef, undef, undef, undef, undef, undef, undef, undef, undef, undef, undef, undef, undef, undef, undef, undef, undef, undef, undef, undef, undef, undef, undef, undef, undef, undef, undef, undef, undef, undef, undef, undef, undef, undef, undef, undef, undef, undef, undef, undef, undef, undef, undef, undef, undef, undef, undef, undef, undef, undef, undef, undef], defers := [] }) ?assign ?body ?done ?stop
  case assign =>
    intro l x W K hK
    simp only [cornerCells, List.setIfInBounds_toArray, List.set_cons_succ, List.set_cons_zero] at hK ⊢
    gi_wp2
    exact hK
  case body =>
    rintro l x Bx pre W hx hBx hW hcx ⟨⟨⟨v0, v1, v2, a0, a1, a2, ap01, ap02, ap12⟩, hbs, hres⟩, hB⟩ hlen hpre
    have n1 := ptAt_bd HA.out hx
    have n2 := nx_bd HA.out hx
    have cx : crsAt ps x = crs ((ptAt ps x).1, (ptAt ps x).2) ((nx ps x).1, (nx ps x).2) := rfl
    have x0 : xAt ps x = crs ((ptAt ps x).1, (ptAt ps x).2) ((nx ps x).1, (nx ps x).2) * ((ptAt ps x).1 + (nx ps x).1) := rfl
    have y0 : yAt ps x = crs ((ptAt ps x).1, (ptAt ps x).2) ((nx ps x).1, (nx ps x).2) * ((ptAt ps x).2 + (nx ps x).2) := rfl
    have cb : Bd 800 (crs ((ptAt ps x).1, (ptAt ps x).2) ((nx ps x).1, (nx ps x).2)) := ((n1.1.mul n2.2).add (n1.2.neg.mul n2.1)).mono (by omega)
    have e1 := i64_bd (n1.1.add n2.1) (by omega)
    have e2 := i64_bd (n1.2.add n2.2) (by omega)
    have e3 := i64_bd (cb.mul (n1.1.add n2.1)) (by omega)
    have e4 := i64_bd (cb.mul (n1.2.add n2.2)) (by omega)
    have k1 := Lib.hid (n1.1.mono (C := 100000000) (by omega))
    have k2 := Lib.hid (n1.2.mono (C := 100000000) (by omega))
    have k3 := Lib.hid (n2.1.mono (C := 100000000) (by omega))
    have k4 := Lib.hid (n2.2.mono (C := 100000000) (by omega))
    have CX := Lib.hid cx
    have X0 := Lib.hid x0
    have Y0 := Lib.hid y0
    have HCX := Lib.hid hcx
    have q2 := hcx.c2
    have q3 := hcx.c3
    have q4 := hcx.c4
    have q5 := hcx.c5
    have hlW := hcx.lt
    have PL := Lib.hid hpre
    have HROW := Lib.hid hcx.row
    clear cx x0 y0 n1 n2 cb hcx hpre
    generalize ptAt ps x = pa at *
    generalize nx ps x = pb at *
    generalize pv ps x = pc at *
    gi_wp2_with fail
    refine ⟨trivial, ?_⟩
    refine (CallsIn.inRound l (callsIn_wide.2 (cross_any pa.1 pa.2 pb.1 pb.2 W k1.out k2.out k3.out k4.out))).mono ?_
    rintro e w3 ⟨rfl, hb3⟩
    have A0 := Lib.hid (a0.below hb3)
    have A1 := Lib.hid (a1.below hb3)
    have A2 := Lib.hid (a2.below hb3)
    have R76 := Lib.hid ((hb3.block Bx hlW).trans HROW.out)
    have RB := Lib.hid ((hb3.block _ (Array.getElem?_eq_some_iff.1 hbs).1).trans hbs)
    have R0 := Lib.hid ((hb3.block _ (Array.getElem?_eq_some_iff.1 hres).1).trans hres)
    have HB := Lib.hid (Below.andThen hB hb3 (Nat.le_refl _))
    have KF := Lib.hid (show KeepsFrom V.heap.size W w3 from KeepsFrom.of_grownBy (row := none) ⟨hb3.os, hb3.tape, hb3.output, hb3.size, fun k hk _ => hb3.block k hk⟩ (fun r e => by cases e))
    have hbl2 : b < W.heap.size := by have := FA.out; omega
    have K2 := Lib.hid (hb3.block b hbl2)
    have hs3 := hb3.size
    have c0 := A0.out.2.1.cell
    generalize crs (pa.1, pa.2) (pb.1, pb.2) = cr at *
    have HBS := Lib.hid hbs
    clear hb3 a0 a1 a2 hbs hres hB q2 q3 q4 q5
    have A00 := A0
    have A01 := A1
    have A02 := A2
    have P001 := Lib.hid ap01
    have P010 := Lib.hid ap01.symm
    have P002 := Lib.hid ap02
    have P020 := Lib.hid ap02.symm
    have P012 := Lib.hid ap12
    have P021 := Lib.hid ap12.symm
    have R760 := R76
    have RB0 := RB
    have R00 := R0
    have HB0 := HB
    have KF0 := KF
    have K20 := K2
    obtain ⟨z0, hz0'⟩ : ∃ z, pre.map (crsAt ps) = z := ⟨_, rfl⟩
    obtain ⟨z1, hz1'⟩ : ∃ z, pre.map (xAt ps) = z := ⟨_, rfl⟩
    obtain ⟨z2, hz2'⟩ : ∃ z, pre.map (yAt ps) = z := ⟨_, rfl⟩
    have hl0 : z0.length ≤ 12 := by rw [← hz0', List.length_map]; omega
    have hl1 : z1.length ≤ 12 := by rw [← hz1', List.length_map]; omega
    have hl2 : z2.length ≤ 12 := by rw [← hz2', List.length_map]; omega
    rw [hz0'] at A00
    rw [hz1'] at A01
    rw [hz2'] at A02
    have HZ0 := Lib.hid hz0'
    have HZ1 := Lib.hid hz1'
    have HZ2 := Lib.hid hz2'
    clear hz0' hz1' hz2'
    clear A0 A1 A2 R76 RB R0 HB KF K2 ap01 ap02 ap12
    gi_wp2_with (first | (gi_at_builtin; refine wpListIn_append_own_at _ rfl _ _ 32 rfl w.heap.size 3 i0 (.int .i64 0) 1 8 Try.underlying32 hi hz0 hz1 hz2 rfl (by decide) _ _ _ rfl (A00.out.2.2.alloc _) _ 1 1 [encI (cr)] rfl rfl (cell_one_at _ _ _ _ (by simp)) (by simp [Value.oneCell', encI]) (by unfold maxLen; omega) (by omega) (Nat.le_trans HB0.out.size (by simp)) ?_; intro v' w10 hown' hgrow hat; obtain ⟨g0, cap0, rfl⟩ := ownsRow_succ hown'; obtain ⟨f1, f2, f3, f4, f5, f6, f7⟩ := acc_append (x := cr) _ A00.out HB0.out.size hown' hgrow hat; obtain ⟨h1, p1⟩ := f7 B2 _ _ A01.out (by have := FA.out; omega) P010.out; obtain ⟨h2, p2⟩ := f7 B3 _ _ A02.out (by have := FA.out; omega) P020.out; have A10 := Lib.hid f3; have A11 := Lib.hid h1; have A12 := Lib.hid h2; have P110 := Lib.hid p1; have P101 := Lib.hid p1.symm; have P120 := Lib.hid p2; have P102 := Lib.hid p2.symm; have P112 := P012; have P121 := P021; have R761 := Lib.hid (f6 _ _ _ R760.out (by have := FA.out; omega) (by decide)); have RB1 := Lib.hid (f6 _ _ _ RB0.out (by have := FA.out; omega) (by decide)); have R01 := Lib.hid (f6 _ _ _ R00.out (by have := FA.out; omega) (by decide)); have HB1 := Lib.hid (HB0.out.trans f5); have KF1 := Lib.hid (KF0.out.trans (f4.from _)); have K21 := Lib.hid ((f5.block b hbl).trans K20.out); have c1 := A11.out.2.1.cell; obtain ⟨q2, q3, q4, q5⟩ := corner_cells R761.out; clear A00 A01 A02 hown' hgrow hat f3 f4 f5 f6 f7 h1 p1 h2 p2) | (gi_at_builtin; refine wpListIn_append_own_at _ rfl _ _ 32 rfl w.heap.size 3 i0 (.int .i64 0) 1 8 Try.underlying32 hi hz0 hz1 hz2 rfl (by decide) _ _ _ rfl (A11.out.2.2.alloc _) _ 1 1 [encI (cr * (pa.1 + pb.1))] rfl rfl (cell_one_at _ _ _ _ (by simp)) (by simp [Value.oneCell', encI]) (by unfold maxLen; omega) (by omega) (Nat.le_trans HB1.out.size (by simp)) ?_; intro v' w11 hown' hgrow hat; obtain ⟨g1, cap1, rfl⟩ := ownsRow_succ hown'; obtain ⟨f1, f2, f3, f4, f5, f6, f7⟩ := acc_append (x := cr * (pa.1 + pb.1)) _ A11.out HB1.out.size hown' hgrow hat; obtain ⟨h0, p0⟩ := f7 B1 _ _ A10.out (by have := FA.out; omega) P101.out; obtain ⟨h2, p2⟩ := f7 B3 _ _ A12.out (by have := FA.out; omega) P121.out; have A21 := Lib.hid f3; have A20 := Lib.hid h0; have A22 := Lib.hid h2; have P201 := Lib.hid p0; have P210 := Lib.hid p0.symm; have P202 := P102; have P220 := P120; have P221 := Lib.hid p2; have P212 := Lib.hid p2.symm; have R762 := Lib.hid (f6 _ _ _ R761.out (by have := FA.out; omega) (by decide)); have RB2 := Lib.hid (f6 _ _ _ RB1.out (by have := FA.out; omega) (by decide)); have R02 := Lib.hid (f6 _ _ _ R01.out (by have := FA.out; omega) (by decide)); have HB2 := Lib.hid (HB1.out.trans f5); have KF2 := Lib.hid (KF1.out.trans (f4.from _)); have K22 := Lib.hid ((f5.block b hbl).trans K21.out); have c2 := A22.out.2.1.cell; obtain ⟨q2, q3, q4, q5⟩ := corner_cells R762.out; clear A10 A11 A12 hown' hgrow hat f3 f4 f5 f6 f7 h0 p0 h2 p2) | (gi_at_builtin; refine wpListIn_append_own_at _ rfl _ _ 32 rfl w.heap.size 3 i0 (.int .i64 0) 1 8 Try.underlying32 hi hz0 hz1 hz2 rfl (by decide) _ _ _ rfl (A22.out.2.2.alloc _) _ 1 1 [encI (cr * (pa.2 + pb.2))] rfl rfl (cell_one_at _ _ _ _ (by simp)) (by simp [Value.oneCell', encI]) (by unfold maxLen; omega) (by omega) (Nat.le_trans HB2.out.size (by simp)) ?_; intro v' w12 hown' hgrow hat; obtain ⟨g2, cap2, rfl⟩ := ownsRow_succ hown'; obtain ⟨f1, f2, f3, f4, f5, f6, f7⟩ := acc_append (x := cr * (pa.2 + pb.2)) _ A22.out HB2.out.size hown' hgrow hat; obtain ⟨h0, p0⟩ := f7 B1 _ _ A20.out (by have := FA.out; omega) P202.out; obtain ⟨h1, p1⟩ := f7 B2 _ _ A21.out (by have := FA.out; omega) P212.out; have A32 := Lib.hid f3; have A30 := Lib.hid h0; have A31 := Lib.hid h1; have P301 := P201; have P310 := P210; have P302 := Lib.hid p0; have P320 := Lib.hid p0.symm; have P312 := Lib.hid p1; have P321 := Lib.hid p1.symm; have R763 := Lib.hid (f6 _ _ _ R762.out (by have := FA.out; omega) (by decide)); have RB3 := Lib.hid (f6 _ _ _ RB2.out (by have := FA.out; omega) (by decide)); have R03 := Lib.hid (f6 _ _ _ R02.out (by have := FA.out; omega) (by decide)); have HB3 := Lib.hid (HB2.out.trans f5); have KF3 := Lib.hid (KF2.out.trans (f4.from _)); have K23 := Lib.hid ((f5.block b hbl).trans K22.out); clear A20 A21 A22 hown' hgrow hat f3 f4 f5 f6 f7 h0 p0 h1 p1))
    refine ⟨KF3.out, ⟨KF3.out.size, K23.out, RB3.out.trans HBS.out.symm⟩, ⟨⟨_, _, _, ?_, ?_, ?_, P301.out, P302.out, P312.out⟩, RB3.out, R03.out⟩, HB3.out⟩
    · rw [List.map_append, HZ0.out]; simpa [CX.out] using A30.out
    · rw [List.map_append, HZ1.out]; simpa [X0.out] using A31.out
    · rw [List.map_append, HZ2.out]; simpa [Y0.out] using A32.out
  case done =>
    rintro D W hD ⟨⟨⟨v0, v1, v2, a0, a1, a2, ap01, ap02, ap12⟩, hbs, hres⟩, hB⟩ hK
    have hne : ∀ f : Nat → Int, (upto ps.length).map f ≠ [] := fun f e => by
      have := congrArg List.length e
      rw [List.length_map] at this
      simp only [upto, List.length_range, List.length_nil] at this
      omega
    obtain ⟨g0, k0, rfl, l0, i0'⟩ := a0.ints (hne _)
    obtain ⟨g1, k1, rfl, l1, i1'⟩ := a1.ints (hne _)
    obtain ⟨g2, k2, rfl, l2, i2'⟩ := a2.ints (hne _)
    have F0 := Lib.hid (sumOf_upto HA.out (crsAt ps) 800 (by omega) (fun x hx => crsAt_bd HA.out hx) k0 i0')
    have F1 := Lib.hid (sumOf_upto HA.out (xAt ps) 32000 (by omega) (fun x hx => xAt_bd HA.out hx) k1 i1')
    have F2 := Lib.hid (sumOf_upto HA.out (yAt ps) 32000 (by omega) (fun x hx => yAt_bd HA.out hx) k2 i2')
    have bA := sum_upto_bd HA.out (crsAt ps) 800 (by omega) (fun x hx => crsAt_bd HA.out hx)
    have bX := sum_upto_bd HA.out (xAt ps) 32000 (by omega) (fun x hx => xAt_bd HA.out hx)
    have bY := sum_upto_bd HA.out (yAt ps) 32000 (by omega) (fun x hx => yAt_bd HA.out hx)
    have fin : mid ps = (((upto ps.length).map (xAt ps)).sum.tdiv (gcdI (gcdI ((upto ps.length).map (xAt ps)).sum ((upto ps.length).map (yAt ps)).sum) (3 * ((upto ps.length).map (crsAt ps)).sum)), ((upto ps.length).map (yAt ps)).sum.tdiv (gcdI (gcdI ((upto ps.length).map (xAt ps)).sum ((upto ps.length).map (yAt ps)).sum) (3 * ((upto ps.length).map (crsAt ps)).sum)), (3 * ((upto ps.length).map (crsAt ps)).sum).tdiv (gcdI (gcdI ((upto ps.length).map (xAt ps)).sum ((upto ps.length).map (yAt ps)).sum) (3 * ((upto ps.length).map (crsAt ps)).sum))) := rfl
    have hD' : 0 < ((upto ps.length).map (crsAt ps)).sum := hD0
    have c0 := a0.2.1.cell
    have c1 := a1.2.1.cell
    have c2 := a2.2.1.cell
    have HB := Lib.hid hB
    have HK := Lib.hid hK
    have HD := Lib.hid hD
    have HR := Lib.hid hres
    simp only [List.length_map, upto_length] at c0 c1 c2 F0 F1 F2 ⊢
    generalize ((upto ps.length).map (xAt ps)).sum = X at *
    generalize ((upto ps.length).map (yAt ps)).sum = Y at *
    generalize ((upto ps.length).map (crsAt ps)).sum = A at *
    have e1 : IntKind.i64.wrap (3 * A) = 3 * A := i64_bd (B := 1000000) (by unfold Bd at *; omega) (by omega)
    have bD : Bd 30000 (3 * A) := by unfold Bd at *; omega
    have hG := gcdI_pos (n := gcdI X Y) (show 0 < 3 * A by omega)
    have bG : Bd 1000000 (gcdI X Y) := gcdI_bd (bX.mono (by omega)) (bY.mono (by omega))
    have HG1 := Lib.hid (gcd_any X Y)
    have HG2 := Lib.hid (gcd_any (gcdI X Y) (3 * A))
    have J1 := Lib.hid (bX.mono (C := 4000000000000000000) (by omega))
    have J2 := Lib.hid (bY.mono (C := 4000000000000000000) (by omega))
    have J3 := Lib.hid (bG.mono (C := 4000000000000000000) (by omega))
    have J4 := Lib.hid (bD.mono (C := 4000000000000000000) (by omega))
    generalize gcdI (gcdI X Y) (3 * A) = G at *
    generalize gcdI X Y = G1 at *
    have t1 : IntKind.i64.wrap (X.tdiv G) = X.tdiv G := i64_bd bX.tdiv (by omega)
    have t2 : IntKind.i64.wrap (Y.tdiv G) = Y.tdiv G := i64_bd bY.tdiv (by omega)
    have t3 : IntKind.i64.wrap ((3 * A).tdiv G) = (3 * A).tdiv G := i64_bd bD.tdiv (by omega)
    have t4 : ¬ G = 0 := by omega
    have t5 : (G == 0) = false := beq_eq_false_iff_ne.2 t4
    have Fin := Lib.hid fin
    clear fin a0 a1 a2 hbs hres hB hK hD i0' i1' i2' bA bX bY bG bD hD' l0 l1 l2 ap01 ap02 ap12 hne hG
    gi_wp2_with fail
    refine wpIn_region_quiet_lit rfl (by kernel_rfl) (by kernel_rfl) ?_
    repeat (first
      | gi_big_quiet_step (fail)
      | (refine wpQuietIn_step (fun _ _ _ _ => trivial) (fun K hK => ?_)
         go_simp
         apply Exists.intro
         refine ⟨fun _ => ?_, hK _ ?_⟩
         · exact CallsIn.quiet_of_same (callsIn_wide.2 (SumOf.call (by first | exact F0.out | exact F1.out | exact F2.out) _))
         clear hK K))
    refine wpQuietIn_nil ?_
    rintro _ ⟨nq, rfl⟩
    gi_wp2_with fail
    refine ⟨trivial, ?_⟩
    refine (callsIn_wide.2 (HG1.out _ J1.out J2.out)).mono ?_
    rintro e w3 ⟨rfl, m1, rfl⟩
    gi_wp2_with fail
    refine ⟨trivial, ?_⟩
    refine (callsIn_wide.2 (HG2.out _ J3.out J4.out)).mono ?_
    rintro e w4 ⟨rfl, m2, rfl⟩
    have rr : Row W w.heap.size 29 [.int .i64 0, .int .i64 0, .int .i64 0] := HR.out
    have rc0 := rr.cell 0
    have rc1 := rr.cell 1
    have rc2 := rr.cell 2
    have rf0 := frozen_of_row W w.heap.size 0 _ _ rr
    have rf1 := frozen_of_row W w.heap.size 1 _ _ rr
    have rf2 := frozen_of_row W w.heap.size 2 _ _ rr
    have RR := Lib.hid rr
    simp only [List.getElem?_cons_zero, List.getElem?_cons_succ] at rc0 rc1 rc2
    clear rr
    gi_wp2_with fail
    gi_region
    gi_wp2_with fail
    rw [Fin.out]
    have hrow : Row ((((W.drewN (nq + m1 + m2 + 1)).setCell ⟨w.heap.size, 0, none⟩ (.int .i64 (X.tdiv G))).setCell ⟨w.heap.size, 1, none⟩ (.int .i64 (Y.tdiv G))).setCell ⟨w.heap.size, 2, none⟩ (.int .i64 ((3 * A).tdiv G))) w.heap.size 29 [.int .i64 (X.tdiv G), .int .i64 (Y.tdiv G), .int .i64 ((3 * A).tdiv G)] := by
      have h0 : Row (W.drewN (nq + m1 + m2 + 1)) w.heap.size 29 [.int .i64 0, .int .i64 0, .int .i64 0] := RR.out
      simpa using ((h0.set 0 (.int .i64 (X.tdiv G))).set 1 (.int .i64 (Y.tdiv G))).set 2 (.int .i64 ((3 * A).tdiv G))
    have hbel : Below w.heap.size w ((((W.drewN (nq + m1 + m2 + 1)).setCell ⟨w.heap.size, 0, none⟩ (.int .i64 (X.tdiv G))).setCell ⟨w.heap.size, 1, none⟩ (.int .i64 (Y.tdiv G))).setCell ⟨w.heap.size, 2, none⟩ (.int .i64 ((3 * A).tdiv G))) :=
      (((below_drewN HB.out _).setCell (p := ⟨w.heap.size, 0, none⟩) (Nat.le_refl _) _).setCell (p := ⟨w.heap.size, 1, none⟩) (Nat.le_refl _) _).setCell (p := ⟨w.heap.size, 2, none⟩) (Nat.le_refl _) _
    have hko : (((((W.drewN (nq + m1 + m2 + 1)).setCell ⟨w.heap.size, 0, none⟩ (.int .i64 (X.tdiv G))).setCell ⟨w.heap.size, 1, none⟩ (.int .i64 (Y.tdiv G))).setCell ⟨w.heap.size, 2, none⟩ (.int .i64 ((3 * A).tdiv G)))).heap[D]? = some (.deferred (some [])) :=
      (KeepsOthers.setCell _ _ _).same D _ ((KeepsOthers.setCell _ _ _).same D _ ((KeepsOthers.setCell _ _ _).same D _ (show (W.drewN (nq + m1 + m2 + 1)).heap[D]? = _ from HK.out) rfl) rfl) rfl
    generalize (((W.drewN (nq + m1 + m2 + 1)).setCell ⟨w.heap.size, 0, none⟩ (.int .i64 (X.tdiv G))).setCell ⟨w.heap.size, 1, none⟩ (.int .i64 (Y.tdiv G))).setCell ⟨w.heap.size, 2, none⟩ (.int .i64 ((3 * A).tdiv G)) = WF at hrow hbel hko ⊢
    refine ⟨by simp, .inl ⟨_, _, rfl, run_takeDeferred hko, ?_⟩⟩
    have hrow2 : Row (WF.putObj D (.deferred none)) w.heap.size 29 [.int .i64 (X.tdiv G), .int .i64 (Y.tdiv G), .int .i64 ((3 * A).tdiv G)] := lasts_heap V.heap.size _ _ _ _ _ (some D) hrow (grownBy_putObj' _ D _) (fun r e => by cases e; exact ⟨HD.out, _, hko, rfl⟩)
    have v0 := hrow2.cell 0
    have v1 := hrow2.cell 1
    have v2 := hrow2.cell 2
    simp only [List.getElem?_cons_zero, List.getElem?_cons_succ] at v0 v1 v2
    refine ⟨.agg #[.int .i64 (X.tdiv G), .int .i64 (Y.tdiv G), .int .i64 ((3 * A).tdiv G)], by simp [results, Try.results99, go_sem, v0, v1, v2], rfl, below_put hbel ?_ hko _⟩
    have := HD.out
    have := FA.out
    omega
  case stop =>
    rintro D c W hD h _
    exact h.elim
end Go.Proofs.Ytlehddifcjklgaa
namespace Go.Proofs.Ytlehddifcjklgaa
open Go.RowKit Go.Shelf
attribute [local go_sem] Oper.semAt_some
theorem acc_append' {Wt w1 : World} {n₀ Bk : Nat} {zs : List Int} {x : Int} {vk v' : Value} (ha : Acc Wt n₀ Bk zs vk) (hn : n₀ ≤ Wt.heap.size)
    (hown' : w1.ownsRow n₀ 3 1 v' (zs.length + 1) (zs.map encI ++ [encI x])) (hg : Wt.grownBy w1 vk.ownBlock) :
    w1.cell? ⟨Bk, 0, none⟩ = some vk ∧ w1.frozen? ⟨Bk, 0, none⟩ = false ∧
    Acc (w1.setCell ⟨Bk, 0, none⟩ v') n₀ Bk (zs ++ [x]) v' ∧ KeepsOthers Wt (w1.setCell ⟨Bk, 0, none⟩ v') ∧ Below n₀ Wt (w1.setCell ⟨Bk, 0, none⟩ v') ∧
    (∀ g cs t, Wt.heap[g]? = some (.cells cs t (0, 0)) → g ≠ Bk → t ≠ 3 → (w1.setCell ⟨Bk, 0, none⟩ v').heap[g]? = some (.cells cs t (0, 0))) := by
  obtain ⟨hB, hk, hr⟩ := ha
  have hkeep : ∀ (g : Nat) (cs : Array Value) (t : TypeId), Wt.heap[g]? = some (Obj.cells cs t (0, 0)) → t ≠ 3 → w1.heap[g]? = some (Obj.cells cs t (0, 0)) := fun g cs t hgt ht =>
    (hg.block g (Array.getElem?_eq_some_iff.1 hgt).1 (fun e => by
      obtain ⟨c, fz, hk2⟩ := ownsRow_kind hr g e.symm
      rw [hgt] at hk2; cases hk2; exact ht rfl)).trans hgt
  have h1 : Boxed w1 Bk 32 vk := hkeep Bk _ 32 hk (by decide)
  refine ⟨h1.cell, h1.frozen, ⟨hB, h1.set v', by simpa using ownsRow_setCell_other hown' (fun e => (h1.not_row (by decide) hown') e.symm) v'⟩, ?_, ?_, fun g cs t hgt hne ht => ?_⟩
  · exact (KeepsOthers.of_grownBy hg (fun r o e ho => by
      obtain ⟨c, fz, hk2⟩ := ownsRow_kind hr r e
      rw [ho] at hk2; cases hk2; rfl)).trans (KeepsOthers.setCell _ _ _)
  · exact ((Below.refl n₀ Wt).grown hg hn (fun r e => by
      rcases hr.2 with ⟨rfl, _⟩ | ⟨g', cap, cur, rfl, h, _⟩
      · simp [Value.ownBlock] at e
      · simp [Value.ownBlock] at e; omega)).setCell (p := ⟨Bk, 0, none⟩) hB _
  · exact ((grownBy_setCell' w1 Bk v').block g (Array.getElem?_eq_some_iff.1 (hkeep g cs t hgt ht)).1 (fun e => hne (by cases e; rfl))).trans (hkeep g cs t hgt ht)
/-- what Area's round has done -/
structure AreaJ (W0 : World) (n₀ Bk Bx : Nat) (z : List Int) (vA : Value) (pa pb : Pt) (cr : Int) (b0 b1 b2 b3 b4 b5 b6 b7 b8 : Bool) (x0 x1 x2 x3 x4 x5 x6 x7 : Value) (W : World) : Prop where
  below : b7 = false → Below W0.heap.size W0 W
  s0 : b0 = true → x0 = vA
  s1 : b1 = true → x1 = .pointer (some ⟨Bx, 2, none⟩)
  s2 : b2 = true → x2 = .agg #[.int .i64 pa.1, .int .i64 pa.2]
  s3 : b3 = true → x3 = .pointer (some ⟨Bx, 4, none⟩)
  s4 : b4 = true → x4 = .agg #[.int .i64 pb.1, .int .i64 pb.2]
  s5 : b5 = true → x5 = .int .i64 cr
  s6 : b6 = true → ∃ g, x6 = .slice (some ⟨g, 0, none⟩) 1 1 ∧ (b7 = false → W.cell? ⟨g, 0, none⟩ = some (.int .i64 cr))
  s7 : b7 = true → b8 = false → W.cell? ⟨Bk, 0, none⟩ = some vA ∧ W.frozen? ⟨Bk, 0, none⟩ = false ∧ (∃ g k, x7 = .slice (some ⟨g, 0, none⟩) (z.length + 1) k) ∧
    Acc (W.setCell ⟨Bk, 0, none⟩ x7) n₀ Bk (z ++ [cr]) x7 ∧ KeepsOthers W0 (W.setCell ⟨Bk, 0, none⟩ x7) ∧ Below n₀ W0 (W.setCell ⟨Bk, 0, none⟩ x7) ∧
    (∀ g cs t, W0.heap[g]? = some (.cells cs t (0, 0)) → g ≠ Bk → t ≠ 3 → (W.setCell ⟨Bk, 0, none⟩ x7).heap[g]? = some (.cells cs t (0, 0)))
  s8 : b8 = true → Acc W n₀ Bk (z ++ [cr]) x7 ∧ KeepsOthers W0 W ∧ Below n₀ W0 W ∧
    (∀ g cs t, W0.heap[g]? = some (.cells cs t (0, 0)) → g ≠ Bk → t ≠ 3 → W.heap[g]? = some (.cells cs t (0, 0)))
  o : b8 = true → b7 = true
  o7 : b7 = true → b6 = true
  o70 : b7 = true → b0 = true
  o6 : b6 = true → b5 = true
  o52 : b5 = true → b2 = true
  o54 : b5 = true → b4 = true
  o2 : b2 = true → b1 = true
  o4 : b4 = true → b3 = true
def areaJ (W0 : World) (n₀ Bk Bx : Nat) (z : List Int) (vA : Value) (pa pb : Pt) (cr : Int) (bs : List Bool) (vs : List Value) (W : World) : Prop :=
  ∃ b0 b1 b2 b3 b4 b5 b6 b7 b8 x0 x1 x2 x3 x4 x5 x6 x7, bs = [b0, b1, b2, b3, b4, b5, b6, b7, b8] ∧ vs = [x0, x1, x2, x3, x4, x5, x6, x7] ∧ AreaJ W0 n₀ Bk Bx z vA pa pb cr b0 b1 b2 b3 b4 b5 b6 b7 b8 x0 x1 x2 x3 x4 x5 x6 x7 W
theorem areaJ_start (W0 : World) (n₀ Bk Bx : Nat) (z : List Int) (vA : Value) (pa pb : Pt) (cr : Int) (x0 x1 x2 x3 x4 x5 x6 x7 : Value) (W : World) (h : Below W0.heap.size W0 W) :
    areaJ W0 n₀ Bk Bx z vA pa pb cr (List.replicate 9 false) [x0, x1, x2, x3, x4, x5, x6, x7] W :=
  ⟨false, false, false, false, false, false, false, false, false, x0, x1, x2, x3, x4, x5, x6, x7, rfl, rfl, { below := fun _ => h, s0 := (fun h => by cases h), s1 := (fun h => by cases h), s2 := (fun h => by cases h), s3 := (fun h => by cases h), s4 := (fun h => by cases h), s5 := (fun h => by cases h), s6 := (fun h => by cases h), s7 := (fun h => by cases h), s8 := (fun h => by cases h), o := (fun h => by cases h), o7 := (fun h => by cases h), o70 := (fun h => by cases h), o6 := (fun h => by cases h), o52 := (fun h => by cases h), o54 := (fun h => by cases h), o2 := (fun h => by cases h), o4 := (fun h => by cases h) }⟩
theorem areaJ_mk {W0 : World} {n₀ Bk Bx : Nat} {z : List Int} {vA : Value} {pa pb : Pt} {cr : Int} {b0 b1 b2 b3 b4 b5 b6 b7 b8 : Bool} {x0 x1 x2 x3 x4 x5 x6 x7 : Value} {W : World}
    (h : AreaJ W0 n₀ Bk Bx z vA pa pb cr b0 b1 b2 b3 b4 b5 b6 b7 b8 x0 x1 x2 x3 x4 x5 x6 x7 W) : areaJ W0 n₀ Bk Bx z vA pa pb cr [b0, b1, b2, b3, b4, b5, b6, b7, b8] [x0, x1, x2, x3, x4, x5, x6, x7] W :=
  ⟨_, _, _, _, _, _, _, _, _, _, _, _, _, _, _, _, _, rfl, rfl, h⟩
section
variable {W0 : World} {n₀ Bk Bx : Nat} {z : List Int} {vA : Value} {pa pb : Pt} {cr : Int} {b0 b1 b2 b3 b4 b5 b6 b7 b8 : Bool} {x0 x1 x2 x3 x4 x5 x6 x7 : Value} {W : World}
theorem AreaJ.up0 (J : AreaJ W0 n₀ Bk Bx z vA pa pb cr b0 b1 b2 b3 b4 b5 b6 b7 b8 x0 x1 x2 x3 x4 x5 x6 x7 W) (h : b7 = true) : b0 = true := J.o70 h
theorem AreaJ.up6 (J : AreaJ W0 n₀ Bk Bx z vA pa pb cr b0 b1 b2 b3 b4 b5 b6 b7 b8 x0 x1 x2 x3 x4 x5 x6 x7 W) (h : b7 = true) : b6 = true := J.o7 h
theorem AreaJ.up5 (J : AreaJ W0 n₀ Bk Bx z vA pa pb cr b0 b1 b2 b3 b4 b5 b6 b7 b8 x0 x1 x2 x3 x4 x5 x6 x7 W) (h : b7 = true) : b5 = true := J.o6 (J.o7 h)
theorem AreaJ.up4 (J : AreaJ W0 n₀ Bk Bx z vA pa pb cr b0 b1 b2 b3 b4 b5 b6 b7 b8 x0 x1 x2 x3 x4 x5 x6 x7 W) (h : b7 = true) : b4 = true := J.o54 (J.up5 h)
theorem AreaJ.up2 (J : AreaJ W0 n₀ Bk Bx z vA pa pb cr b0 b1 b2 b3 b4 b5 b6 b7 b8 x0 x1 x2 x3 x4 x5 x6 x7 W) (h : b7 = true) : b2 = true := J.o52 (J.up5 h)
theorem AreaJ.up1 (J : AreaJ W0 n₀ Bk Bx z vA pa pb cr b0 b1 b2 b3 b4 b5 b6 b7 b8 x0 x1 x2 x3 x4 x5 x6 x7 W) (h : b7 = true) : b1 = true := J.o2 (J.up2 h)
theorem AreaJ.up3 (J : AreaJ W0 n₀ Bk Bx z vA pa pb cr b0 b1 b2 b3 b4 b5 b6 b7 b8 x0 x1 x2 x3 x4 x5 x6 x7 W) (h : b7 = true) : b3 = true := J.o4 (J.up4 h)
end
theorem cell_one_of {W : World} {g : Nat} {u : Value} (h : W.cell? ⟨g, 0, none⟩ = some u) : ∀ j x, [u][j]? = some x → W.cell? ((⟨g, 0, none⟩ : Addr).add j) = some x := by
  intro j x hj
  match j, hj with
  | 0, hj => simp at hj; subst hj; simpa [Addr.add] using h
  | j + 1, hj => simp at hj
set_option maxRecDepth 100000 in
set_option maxHeartbeats 1000000 in
theorem area_in (ps : List Pt) (b c : Nat) (w : World) (hp : PtsAt w b 0 ps) (hck : chk ps = true) :
    CallsIn Fence.wide 3 Try.prog 21 #[.slice (some ⟨b, 0, none⟩) ps.length c] w fun e w' => e = .returned (.tuple #[.int .i64 (area ps), .int .i64 0]) ∧ Below w.heap.size w w' := by
  have ha : areP ps = true := by unfold chk at hck; exact (Bool.and_eq_true _ _ ▸ hck : _ ∧ _).1
  obtain ⟨h3, h12⟩ := areP_len ha
  obtain ⟨i0, hi, hz0, hz1, hz2⟩ := info_parts info3
  have HA := Lib.hid ha
  have HC := Lib.hid (check_any ps b c w hp (by omega))
  obtain ⟨A, hA⟩ : ∃ A, area ps = A := ⟨_, rfl⟩
  rw [hA]
  have HAr := Lib.hid hA
  clear hA
  refine callsIn_of_wp_marks Try.func21 rfl trivial ?_ rfl
  simp only [Try.ntmps21, List.size_toArray, List.length_cons, List.length_nil, Nat.reduceAdd, Nat.reduceSub, Array.replicate_succ, Array.replicate_zero, List.push_toArray, List.append_toArray, List.nil_append, List.cons_append]
  gi_wp2_with fail
  refine ⟨trivial, ?_⟩
  have HC' := HC.out
  rw [hck] at HC'
  refine (callsIn_wide.2 HC').mono ?_
  rintro e w1 ⟨rfl, hb1⟩
  have T1 := Lib.hid hb1
  clear hb1 HC' HC
  gi_wp2_with fail
  refine ⟨trivial, ?_⟩
  obtain ⟨W0, hW0⟩ : ∃ W0, W0 = w1.alloc (.cells #[.slice none 0 0] 32) := ⟨_, rfl⟩
  have B0 : Below w.heap.size w W0 := by rw [hW0]; exact Below.al T1.out (Nat.le_refl _) _
  have s0 : W0.heap.size = w1.heap.size + 1 := by rw [hW0]; simp
  have r1 : Boxed W0 w1.heap.size 32 (.slice none 0 0) := by rw [hW0]; exact Boxed.new _ _ _
  rw [← hW0]
  clear hW0
  refine (callsIn_wide.2 (corners_any _ _ _ _)).mono ?_
  rintro e w2 ⟨rfl, rfl⟩
  obtain ⟨V, hV⟩ : ∃ V, V = W0.alloc (.cells #[.slice (some ⟨b, 0, none⟩) ps.length c] 22) := ⟨_, rfl⟩
  have BV : Below w.heap.size w V := by rw [hV]; exact Below.al B0 (Nat.le_refl _) _
  have sV : V.heap.size = w1.heap.size + 2 := by rw [hV]; simp; omega
  have zb : Boxed V W0.heap.size 22 (.slice (some ⟨b, 0, none⟩) ps.length c) := by rw [hV]; exact Boxed.new _ _ _
  have sw := T1.out.size
  have q1 : Acc V w.heap.size w1.heap.size [] (.slice none 0 0) := ⟨by omega, by rw [hV]; exact r1.alloc _, World.ownsRow_nil _ _ _ _⟩
  have zp := hp.grow BV
  rw [← hV]
  clear hV r1 B0
  have BVh := Lib.hid BV
  have ZP := Lib.hid zp
  have ZB := Lib.hid zb
  have hbl := hp.lt
  have hq := Lib.hid q1
  have FA := Lib.hid (And.intro s0 (And.intro sV sw))
  clear BV hp zp zb q1 s0 sV sw
  gi_wp2_with fail
  refine range_corners 3 W0.heap.size b c (by omega) ps h3 h12 rfl (by have := FA.out; omega) ZB.out.cell ZP.out
    (fun pre W => ((∃ v, Acc W w.heap.size w1.heap.size (pre.map (crsAt ps)) v) ∧ W.heap[W0.heap.size]? = some (.cells #[.slice (some ⟨b, 0, none⟩) ps.length c] 22 (0, 0))) ∧ Below w.heap.size w W)
    (fun _ _ => False)
    (fun _ => (Lasts.and (fun W W' row hi hg hr => let ⟨v, h⟩ := hi; ⟨v, h.grown hg (fun r e => (hr r e).2)⟩) (lasts_heap _ _ _ _)).and (lasts_below _ _ _ (by have := FA.out; omega) (Nat.le_refl _)))
    (fun _ => fun _ _ _ h _ _ => h)
    ⟨⟨⟨_, hq.out⟩, ZB.out⟩, BVh.out⟩
    (fun x Bx => { tmps := #[.slice (some ⟨b, 0, none⟩) ps.length c, undef, .int .i64 0, .int .i64 0, .int .i64 0, .pointer (some ⟨w1.heap.size, 0, none⟩), undef, .pointer (some ⟨Bx, 0, none⟩), .slice (some ⟨b, 0, none⟩) ps.length c, .int .i64 0, .int .i64 0, .bool false, undef, .slice (some ⟨b, 0, none⟩) ps.length c, .func (.func 97) #[] #[.pointer (some ⟨W0.heap.size, 0, none⟩)], .int .i64 (x : Int), .agg (cornerCells ps x), undef, undef, undef, undef, undef, undef, undef, undef, undef, undef], defers := [] }) ?assign ?body ?done ?stop
  case assign =>
    intro l x W K hK
    simp only [cornerCells, List.setIfInBounds_toArray, List.set_cons_succ, List.set_cons_zero] at hK ⊢
    gi_wp2
    exact hK
  case body =>
    rintro l x Bx pre Wr hx hBx hW hcx ⟨⟨⟨vA, aA⟩, hbs⟩, hB⟩ hlen hpre
    have n1 := ptAt_bd HA.out hx
    have n2 := nx_bd HA.out hx
    have k1 := Lib.hid (n1.1.mono (C := 100000000) (by omega))
    have k2 := Lib.hid (n1.2.mono (C := 100000000) (by omega))
    have k3 := Lib.hid (n2.1.mono (C := 100000000) (by omega))
    have k4 := Lib.hid (n2.2.mono (C := 100000000) (by omega))
    have CX := Lib.hid (show crsAt ps x = crs ((ptAt ps x).1, (ptAt ps x).2) ((nx ps x).1, (nx ps x).2) from rfl)
    have c2 := Lib.hid hcx.c2
    have c3 := Lib.hid hcx.c3
    have c4 := Lib.hid hcx.c4
    have c5 := Lib.hid hcx.c5
    have lx := hcx.lt
    clear n1 n2 hcx
    generalize ptAt ps x = pa at *
    generalize nx ps x = pb at *
    obtain ⟨cr, hcr⟩ : ∃ cr, crs (pa.1, pa.2) (pb.1, pb.2) = cr := ⟨_, rfl⟩
    have CR := Lib.hid hcr
    obtain ⟨z, hz⟩ : ∃ z, pre.map (crsAt ps) = z := ⟨_, rfl⟩
    have HZ := Lib.hid hz
    have hl0 : z.length ≤ 12 := by rw [← hz, List.length_map]; omega
    rw [hz] at aA
    have AA := Lib.hid aA
    have cB := Lib.hid aA.2.1.cell
    have lk : w1.heap.size < Wr.heap.size := by have := FA.out; omega
    have hn0 : w.heap.size ≤ Wr.heap.size := hB.size
    have HB := Lib.hid hB
    have HBS := Lib.hid hbs
    have hbl2 : b < Wr.heap.size := by have := FA.out; omega
    clear hcr hz aA hB hbs hpre
    gi_wp2_with fail
    refine wpIn_region_slots (by kernel_rfl) (by kernel_rfl) [17, 18, 19, 20, 21, 22, 23, 24] (areaJ Wr w.heap.size w1.heap.size Bx z vA pa pb cr) ⟨[undef, undef, undef, undef, undef, undef, undef, undef], by simp only [putAll, Act.put, List.setIfInBounds_toArray, List.set_cons_succ, List.set_cons_zero], areaJ_start _ _ _ _ _ _ _ _ _ _ _ _ _ _ _ _ _ _ (Below.refl _ _).drew⟩ ?_ ?_
    · rintro i o bs vs W K ho ⟨b0, b1, b2, b3, b4, b5, b6, b7, b8, x0, x1, x2, x3, x4, x5, x6, x7, rfl, rfl, J⟩ _ hb hw hK
      have HK := Lib.hid hK
      have HJ := Lib.hid J
      have HW := Lib.hid hw
      clear hK J hw
      match i with
      | 0 =>
        obtain rfl : _ = o := Option.some.inj ho
        have e0 : b0 = false := by simpa using hb
        have e7 : b7 = false := by
          cases h7 : b7 with
          | false => rfl
          | true => have := HJ.out.up0 h7; rw [e0] at this; cases this
        have hbw := HJ.out.below e7
        refine wpOpIn_of_list rfl ?_
        simp only [putAll, Act.put, List.setIfInBounds_toArray, List.set_cons_succ, List.set_cons_zero]
        have q0 := below_at hbw lk cB.out
        clear hb ho
        gi_wp2_with fail
        have fin := HK.out [vA, x1, x2, x3, x4, x5, x6, x7] W (areaJ_mk { HJ.out with s0 := fun _ => rfl, o70 := fun _ => rfl })
        simp only [putAll, Act.put, List.setIfInBounds_toArray, List.set_cons_succ, List.set_cons_zero] at fin
        exact fin
      | 1 =>
        obtain rfl : _ = o := Option.some.inj ho
        have e0 : b1 = false := by simpa using hb
        have e7 : b7 = false := by
          cases h7 : b7 with
          | false => rfl
          | true => have := HJ.out.up1 h7; rw [e0] at this; cases this
        have hbw := HJ.out.below e7
        refine wpOpIn_of_list rfl ?_
        simp only [putAll, Act.put, List.setIfInBounds_toArray, List.set_cons_succ, List.set_cons_zero]
        clear hb ho
        gi_wp2_with fail
        have fin := HK.out [x0, .pointer (some ⟨Bx, 2, none⟩), x2, x3, x4, x5, x6, x7] W (areaJ_mk { HJ.out with s1 := fun _ => rfl, o2 := fun _ => rfl })
        simp only [putAll, Act.put, List.setIfInBounds_toArray, List.set_cons_succ, List.set_cons_zero] at fin
        exact fin
      | 2 =>
        obtain rfl : _ = o := Option.some.inj ho
        have e0 : b2 = false := by simpa using hb
        have e7 : b7 = false := by
          cases h7 : b7 with
          | false => rfl
          | true => have := HJ.out.up2 h7; rw [e0] at this; cases this
        have hbw := HJ.out.below e7
        obtain rfl := HJ.out.s1 (HW.out ⟨1, .data⟩ (by simp) rfl)
        refine wpOpIn_of_list rfl ?_
        simp only [putAll, Act.put, List.setIfInBounds_toArray, List.set_cons_succ, List.set_cons_zero]
        have q2 := below_at hbw lx c2.out
        have q3 := below_at hbw lx c3.out
        clear hb ho
        gi_wp2_with fail
        have fin := HK.out [x0, .pointer (some ⟨Bx, 2, none⟩), .agg #[.int .i64 pa.1, .int .i64 pa.2], x3, x4, x5, x6, x7] W (areaJ_mk { HJ.out with s2 := fun _ => rfl, o2 := fun _ => HW.out ⟨1, .data⟩ (by simp) rfl, o52 := fun _ => rfl })
        simp only [putAll, Act.put, List.setIfInBounds_toArray, List.set_cons_succ, List.set_cons_zero] at fin
        exact fin
      | 3 =>
        obtain rfl : _ = o := Option.some.inj ho
        have e0 : b3 = false := by simpa using hb
        have e7 : b7 = false := by
          cases h7 : b7 with
          | false => rfl
          | true => have := HJ.out.up3 h7; rw [e0] at this; cases this
        have hbw := HJ.out.below e7
        refine wpOpIn_of_list rfl ?_
        simp only [putAll, Act.put, List.setIfInBounds_toArray, List.set_cons_succ, List.set_cons_zero]
        clear hb ho
        gi_wp2_with fail
        have fin := HK.out [x0, x1, x2, .pointer (some ⟨Bx, 4, none⟩), x4, x5, x6, x7] W (areaJ_mk { HJ.out with s3 := fun _ => rfl, o4 := fun _ => rfl })
        simp only [putAll, Act.put, List.setIfInBounds_toArray, List.set_cons_succ, List.set_cons_zero] at fin
        exact fin
      | 4 =>
        obtain rfl : _ = o := Option.some.inj ho
        have e0 : b4 = false := by simpa using hb
        have e7 : b7 = false := by
          cases h7 : b7 with
          | false => rfl
          | true => have := HJ.out.up4 h7; rw [e0] at this; cases this
        have hbw := HJ.out.below e7
        obtain rfl := HJ.out.s3 (HW.out ⟨3, .data⟩ (by simp) rfl)
        refine wpOpIn_of_list rfl ?_
        simp only [putAll, Act.put, List.setIfInBounds_toArray, List.set_cons_succ, List.set_cons_zero]
        have q4 := below_at hbw lx c4.out
        have q5 := below_at hbw lx c5.out
        clear hb ho
        gi_wp2_with fail
        have fin := HK.out [x0, x1, x2, .pointer (some ⟨Bx, 4, none⟩), .agg #[.int .i64 pb.1, .int .i64 pb.2], x5, x6, x7] W (areaJ_mk { HJ.out with s4 := fun _ => rfl, o4 := fun _ => HW.out ⟨3, .data⟩ (by simp) rfl, o54 := fun _ => rfl })
        simp only [putAll, Act.put, List.setIfInBounds_toArray, List.set_cons_succ, List.set_cons_zero] at fin
        exact fin
      | 5 =>
        obtain rfl : _ = o := Option.some.inj ho
        have e0 : b5 = false := by simpa using hb
        have e7 : b7 = false := by
          cases h7 : b7 with
          | false => rfl
          | true => have := HJ.out.up5 h7; rw [e0] at this; cases this
        have e6 : b6 = false := by
          cases h6 : b6 with
          | false => rfl
          | true => have := HJ.out.o6 h6; rw [e0] at this; cases this
        have hbw := HJ.out.below e7
        obtain rfl := HJ.out.s2 (HW.out ⟨2, .data⟩ (by simp) rfl)
        obtain rfl := HJ.out.s4 (HW.out ⟨4, .data⟩ (by simp) rfl)
        refine wpOpIn_of_list rfl ?_
        simp only [putAll, Act.put, List.setIfInBounds_toArray, List.set_cons_succ, List.set_cons_zero]
        clear hb ho
        gi_wp2_with fail
        refine ⟨trivial, ?_⟩
        refine (CallsIn.inRound l (callsIn_wide.2 (cross_any pa.1 pa.2 pb.1 pb.2 _ k1.out k2.out k3.out k4.out))).mono ?_
        rintro e W' ⟨rfl, hb'⟩
        have HB' := Lib.hid (Below.andThen hbw hb' (Nat.le_refl _))
        rw [CR.out]
        clear hb' hbw
        gi_wp2_with fail
        have fin := HK.out [x0, x1, .agg #[.int .i64 pa.1, .int .i64 pa.2], x3, .agg #[.int .i64 pb.1, .int .i64 pb.2], .int .i64 cr, x6, x7] W' (areaJ_mk { HJ.out with below := fun _ => HB'.out, s5 := fun _ => rfl, s6 := fun h => (by rw [e6] at h; cases h), s7 := fun h => (by rw [e7] at h; cases h), s8 := fun h => (by rw [HJ.out.o h] at e7; cases e7), o52 := fun _ => HW.out ⟨2, .data⟩ (by simp) rfl, o54 := fun _ => HW.out ⟨4, .data⟩ (by simp) rfl, o6 := fun _ => rfl })
        simp only [putAll, Act.put, List.setIfInBounds_toArray, List.set_cons_succ, List.set_cons_zero] at fin
        exact fin
      | 6 =>
        obtain rfl : _ = o := Option.some.inj ho
        have e0 : b6 = false := by simpa using hb
        have e7 : b7 = false := by
          cases h7 : b7 with
          | false => rfl
          | true => have := HJ.out.up6 h7; rw [e0] at this; cases this
        have hbw := HJ.out.below e7
        obtain rfl := HJ.out.s5 (HW.out ⟨5, .data⟩ (by simp) rfl)
        have e5 : b5 = true := HW.out ⟨5, .data⟩ (by simp) rfl
        refine wpOpIn_of_list rfl ?_
        simp only [putAll, Act.put, List.setIfInBounds_toArray, List.set_cons_succ, List.set_cons_zero]
        clear hb ho
        gi_wp2_with fail
        have fin := HK.out [x0, x1, x2, x3, x4, .int .i64 cr, .slice (some ⟨W.heap.size, 0, none⟩) 1 1, x7] (W.alloc (.cells #[.int .i64 cr] 3)) (areaJ_mk { HJ.out with below := fun _ => Below.al hbw (Nat.le_refl _) _, s6 := fun _ => ⟨_, rfl, fun _ => by simp [cell_al]⟩, s7 := fun h => (by rw [e7] at h; cases h), s8 := fun h => (by rw [HJ.out.o h] at e7; cases e7), o6 := fun _ => e5, o7 := fun _ => rfl })
        simp only [putAll, Act.put, List.setIfInBounds_toArray, List.set_cons_succ, List.set_cons_zero] at fin
        exact fin
      | 7 =>
        obtain rfl : _ = o := Option.some.inj ho
        have e0 : b7 = false := by simpa using hb
        have e8 : b8 = false := by
          cases h8 : b8 with
          | false => rfl
          | true => have := HJ.out.o h8; rw [e0] at this; cases this
        have hbw := HJ.out.below e0
        have e6 : b6 = true := HW.out ⟨6, .data⟩ (by simp) rfl
        obtain rfl := HJ.out.s0 (HW.out ⟨0, .data⟩ (by simp) rfl)
        obtain ⟨gt, rfl, hgc⟩ := HJ.out.s6 e6
        have hgc' := hgc e0
        have AW := AA.out.below hbw
        have hnW := Nat.le_trans hn0 hbw.size
        refine wpOpIn_of_list rfl ?_
        simp only [putAll, Act.put, List.setIfInBounds_toArray, List.set_cons_succ, List.set_cons_zero]
        refine wpListIn_append_own_at _ rfl _ _ 32 rfl w.heap.size 3 i0 (.int .i64 0) 1 8 Try.underlying32 hi hz0 hz1 hz2 rfl (by decide) _ _ _ rfl AW.2.2 ⟨gt, 0, none⟩ 1 1 [encI cr] rfl rfl (cell_one_of hgc') (by simp [Value.oneCell', encI]) (by unfold maxLen; omega) (by omega) hnW ?_
        intro v' wz hown' hgrow hat
        obtain ⟨g', cap', rfl⟩ := ownsRow_succ hown'
        obtain ⟨f1, f2, f3, f4, f5, f6⟩ := acc_append' (x := cr) AW hnW hown' hgrow
        have KO : KeepsOthers Wr W := KeepsOthers.of_grownBy (row := none) ⟨hbw.os, hbw.tape, hbw.output, hbw.size, fun k hk _ => hbw.block k hk⟩ (fun r o e => by cases e)
        have hend : ∀ (g : Nat) (cs : Array Value) (t : TypeId), Wr.heap[g]? = some (Obj.cells cs t (0, 0)) → g ≠ w1.heap.size → t ≠ 3 → (wz.setCell ⟨w1.heap.size, 0, none⟩ (.slice (some ⟨g', 0, none⟩) (z.length + 1) cap')).heap[g]? = some (Obj.cells cs t (0, 0)) := fun g cs t h1 h2 h3 =>
          f6 g cs t ((hbw.block g (Array.getElem?_eq_some_iff.1 h1).1).trans h1) h2 h3
        have ALL := Lib.hid (And.intro f1 (And.intro f2 (And.intro f3 (And.intro (KO.trans f4) (And.intro ((hbw.mono hn0).trans f5) hend)))))
        clear f1 f2 f3 f4 f5 f6 hown' hgrow hat hend KO hb ho hgc hgc' AW hbw
        gi_wp2_with fail
        have fin := HK.out [x0, x1, x2, x3, x4, x5, .slice (some ⟨gt, 0, none⟩) 1 1, .slice (some ⟨g', 0, none⟩) (z.length + 1) cap'] wz (areaJ_mk { HJ.out with below := fun h => (by cases h), s6 := fun _ => ⟨_, rfl, fun h => (by cases h)⟩, s7 := fun _ _ => ⟨ALL.out.1, ALL.out.2.1, ⟨_, _, rfl⟩, ALL.out.2.2.1, ALL.out.2.2.2.1, ALL.out.2.2.2.2.1, ALL.out.2.2.2.2.2⟩, s8 := fun h => (by rw [e8] at h; cases h), o := fun _ => rfl, o7 := fun _ => e6, o70 := fun _ => HW.out ⟨0, .data⟩ (by simp) rfl })
        simp only [putAll, Act.put, List.setIfInBounds_toArray, List.set_cons_succ, List.set_cons_zero] at fin
        exact fin
      | 8 =>
        obtain rfl : _ = o := Option.some.inj ho
        have e8 : b8 = false := by simpa using hb
        have e7 : b7 = true := HW.out ⟨7, .data⟩ (by simp) rfl
        obtain ⟨f1, f2, ⟨g', cap', rfl⟩, f3, f4, f5, f6⟩ := HJ.out.s7 e7 e8
        have ALL := Lib.hid (And.intro f3 (And.intro f4 (And.intro f5 f6)))
        refine wpOpIn_of_list rfl ?_
        simp only [putAll, Act.put, List.setIfInBounds_toArray, List.set_cons_succ, List.set_cons_zero]
        clear hb ho f3 f4 f5 f6
        gi_wp2_with fail
        have fin := HK.out [x0, x1, x2, x3, x4, x5, x6, .slice (some ⟨g', 0, none⟩) (z.length + 1) cap'] (W.setCell ⟨w1.heap.size, 0, none⟩ (.slice (some ⟨g', 0, none⟩) (z.length + 1) cap')) (areaJ_mk { HJ.out with below := fun h => (by rw [e7] at h; cases h), s6 := fun h => (let ⟨g, h1, _⟩ := HJ.out.s6 h; ⟨g, h1, fun h => (by rw [e7] at h; cases h)⟩), s7 := fun _ h => (by cases h), s8 := fun _ => ALL.out, o := fun _ => e7 })
        simp only [putAll, Act.put, List.setIfInBounds_toArray, List.set_cons_succ, List.set_cons_zero] at fin
        exact fin
      | i + 9 => simp at hb
    · rintro vs W ⟨b0, b1, b2, b3, b4, b5, b6, b7, b8, x0, x1, x2, x3, x4, x5, x6, x7, hbs, rfl, J⟩
      simp only [List.length_cons, List.length_nil, List.replicate_succ, List.replicate_zero, List.cons.injEq, and_true] at hbs
      obtain ⟨rfl, rfl, rfl, rfl, rfl, rfl, rfl, rfl, rfl⟩ := hbs
      obtain ⟨f3, f4, f5, f6⟩ := J.s8 rfl
      have ALL := Lib.hid (And.intro f3 (And.intro f4 (And.intro f5 f6)))
      clear f3 f4 f5 f6 J
      simp only [putAll, Act.put, List.setIfInBounds_toArray, List.set_cons_succ, List.set_cons_zero]
      gi_wp2_with fail
      obtain ⟨f3, f4, f5, f6⟩ := ALL.out
      have hbb := f6 _ _ _ HBS.out (by have := FA.out; omega) (by decide)
      refine ⟨f4.from _, ⟨f5.size, f5.block b hbl, hbb.trans HBS.out.symm⟩, ⟨⟨x7, ?_⟩, hbb⟩, HB.out.trans f5⟩
      rw [List.map_append, HZ.out]
      simpa [CX.out, CR.out] using f3
  case done =>
    rintro D W hD ⟨⟨⟨v, a0⟩, hbs⟩, hB⟩ hK
    have hne : ∀ f : Nat → Int, (upto ps.length).map f ≠ [] := fun f e => by
      have := congrArg List.length e
      rw [List.length_map] at this
      simp only [upto, List.length_range, List.length_nil] at this
      omega
    obtain ⟨g0, k0, rfl, l0, i0'⟩ := a0.ints (hne _)
    have F0 := Lib.hid (sumOf_upto HA.out (crsAt ps) 800 (by omega) (fun x hx => crsAt_bd HA.out hx) k0 i0')
    have efin : ((upto ps.length).map (crsAt ps)).sum = A := HAr.out
    rw [efin] at F0
    have c0 := a0.2.1.cell
    have HB := Lib.hid hB
    have HK := Lib.hid hK
    have HD := Lib.hid hD
    simp only [List.length_map, upto_length] at c0 F0
    clear efin a0 hbs hB hK hD i0' l0 hne
    gi_wp2_with fail
    refine ⟨trivial, ?_⟩
    refine (callsIn_wide.2 (F0.out.call 0)).mono ?_
    rintro e w3 ⟨rfl, rfl⟩
    gi_wp2_with fail
    refine ⟨by simp, .inl ⟨_, _, rfl, run_takeDeferred HK.out, ?_⟩⟩
    have hle : w.heap.size ≤ D := by
      have := HD.out
      have := FA.out
      omega
    exact ⟨.tuple #[.int .i64 A, .int .i64 0], by simp [results, Try.results21, go_sem], rfl, below_put HB.out hle HK.out _⟩
  case stop =>
    rintro D c W hD h _
    exact h.elim
theorem area_any (ps : List Pt) (b c : Nat) (w : World) (hp : PtsAt w b 0 ps) (hck : chk ps = true) :
    Calls Try.prog 21 #[.slice (some ⟨b, 0, none⟩) ps.length c] w fun e w' => e = .returned (.tuple #[.int .i64 (area ps), .int .i64 0]) ∧ Below w.heap.size w w' := callsIn_wide.1 (area_in ps b c w hp hck)
theorem middleOf_any (ps : List Pt) (b c : Nat) (w : World) (hp : PtsAt w b 0 ps) (ha : areP ps = true) (hD0 : 0 < area ps) :
    Calls Try.prog 99 #[.slice (some ⟨b, 0, none⟩) ps.length c] w fun e w' => e = .returned (.agg #[.int .i64 (mid ps).1, .int .i64 (mid ps).2.1, .int .i64 (mid ps).2.2]) ∧ Below w.heap.size w w' := callsIn_wide.1 (middleOf_in ps b c w hp ha hD0)
end Go.Proofs.Ytlehddifcjklgaa
namespace Go.Proofs.Ytlehddifcjklgaa
open Go.RowKit Go.Shelf
attribute [local go_sem] Oper.semAt_some
set_option maxRecDepth 100000 in
set_option maxHeartbeats 1000000 in
theorem bodyOf_none (ps : List Pt) (b c : Nat) (w : World) (hp : PtsAt w b 0 ps) (hck : chk ps = true) (hD0 : 0 < area ps) :
    Calls Try.prog 67 #[.slice (some ⟨b, 0, none⟩) ps.length c, .slice none 0 0] w fun e w' => e = .returned (.tuple #[.agg #[.slice (some ⟨b, 0, none⟩) ps.length c, .int .i64 (mid ps).1, .int .i64 (mid ps).2.1, .int .i64 (mid ps).2.2], .int .i64 0]) ∧ Below w.heap.size w w' := by
  have ha : areP ps = true := by unfold chk at hck; exact (Bool.and_eq_true _ _ ▸ hck : _ ∧ _).1
  have hlen := areP_len ha
  have HC : Hid (∀ W, PtsAt W b 0 ps → Calls Try.prog 20 #[.slice (some ⟨b, 0, none⟩) ps.length c] W fun e w' => e = .returned (.int .i64 0) ∧ Below W.heap.size W w') := Lib.hid (fun W h => by
    have := check_any ps b c W h (by omega)
    rw [hck] at this; exact this)
  have HM := Lib.hid (fun W (h : PtsAt W b 0 ps) => middleOf_any ps b c W h ha hD0)
  obtain ⟨X, Y, D, hm⟩ : ∃ X Y D, mid ps = (X, Y, D) := ⟨_, _, _, rfl⟩
  rw [hm] at HM ⊢
  dsimp only at HM ⊢
  have HP := Lib.hid hp
  clear hp hck hD0 ha hm
  go_enter Try.func67, Try.ntmps67
  go_wp2_with fail
  obtain ⟨W0, hW0⟩ : ∃ W0, W0 = w.alloc (.cells #[.slice none 0 0, .int .i64 0, .int .i64 0, .int .i64 0] 81) := ⟨_, rfl⟩
  have B0 := Lib.hid (show Below w.heap.size w W0 by rw [hW0]; exact (Below.refl _ _).alloc (Nat.le_refl _) _)
  have l0 : w.heap.size < W0.heap.size := by rw [hW0]; simp
  have r0 := Lib.hid (show Row W0 w.heap.size 81 [.slice none 0 0, .int .i64 0, .int .i64 0, .int .i64 0] by rw [hW0]; exact Row.new _ _ _)
  rw [← hW0]
  clear hW0
  refine (HC.out W0 (HP.out.grow B0.out)).mono ?_
  rintro e w1 ⟨rfl, hb1⟩
  have T1 := Lib.hid (Below.andThen B0.out hb1 (Nat.le_refl _))
  have r1 := Lib.hid (r0.out.below hb1 l0)
  have l1 : w.heap.size < w1.heap.size := Nat.lt_of_lt_of_le l0 hb1.size
  clear hb1 r0 B0 l0
  go_wp2_with fail
  go_loopw [17] (fun i wr => i = .int .i64 0 ∧ wr = w1) (fun _ _ => 0)
  case atStart => exact ⟨rfl, rfl⟩
  case round =>
    obtain ⟨rfl, rfl⟩ := hrel
    go_wp2_with fail
    refine (HM.out _ (HP.out.grow T1.out)).mono ?_
    rintro e w2 ⟨rfl, hb2⟩
    have T2 := Lib.hid (Below.andThen T1.out hb2 (Nat.le_refl _))
    have rr := r1.out.below hb2 l1
    have q0 := rr.cell 0
    have q1 := rr.cell 1
    have q2 := rr.cell 2
    have q3 := rr.cell 3
    have f0 := frozen_of_row _ w.heap.size 0 _ _ rr
    have f1 := frozen_of_row _ w.heap.size 1 _ _ rr
    have f2 := frozen_of_row _ w.heap.size 2 _ _ rr
    have f3 := frozen_of_row _ w.heap.size 3 _ _ rr
    simp only [List.getElem?_cons_zero, List.getElem?_cons_succ] at q0 q1 q2 q3
    have RR := Lib.hid rr
    clear hb2 rr
    go_wp2_with fail
    have hr : Row ((((w2.setCell ⟨w.heap.size, 0, none⟩ (.slice (some ⟨b, 0, none⟩) ps.length c)).setCell ⟨w.heap.size, 1, none⟩ (.int .i64 X)).setCell ⟨w.heap.size, 2, none⟩ (.int .i64 Y)).setCell ⟨w.heap.size, 3, none⟩ (.int .i64 D)) w.heap.size 81 [.slice (some ⟨b, 0, none⟩) ps.length c, .int .i64 X, .int .i64 Y, .int .i64 D] := by
      simpa using (((RR.out.set 0 (.slice (some ⟨b, 0, none⟩) ps.length c)).set 1 (.int .i64 X)).set 2 (.int .i64 Y)).set 3 (.int .i64 D)
    have v0 := hr.cell 0
    have v1 := hr.cell 1
    have v2 := hr.cell 2
    have v3 := hr.cell 3
    simp only [List.getElem?_cons_zero, List.getElem?_cons_succ] at v0 v1 v2 v3
    refine bodyPost_ret (v := .tuple #[.agg #[.slice (some ⟨b, 0, none⟩) ps.length c, .int .i64 X, .int .i64 Y, .int .i64 D], .int .i64 0]) (by simp [results, Try.results67, go_sem, v0, v1, v2, v3]) rfl ⟨rfl, ?_⟩
    exact (((T2.out.setCell (p := ⟨w.heap.size, 0, none⟩) (Nat.le_refl _) _).setCell (p := ⟨w.heap.size, 1, none⟩) (Nat.le_refl _) _).setCell (p := ⟨w.heap.size, 2, none⟩) (Nat.le_refl _) _).setCell (p := ⟨w.heap.size, 3, none⟩) (Nat.le_refl _) _
set_option maxRecDepth 100000 in
set_option maxHeartbeats 1000000 in
theorem bodyOf_one (ps : List Pt) (b c : Nat) (w : World) (g : Nat) (s : Nat) (hg : g < w.heap.size) (hgc : w.cell? ⟨g, 0, none⟩ = some (.int .i64 (s : Int))) (hs : s < ps.length) (hp : PtsAt w b 0 ps) (hck : chk ps = true) (hD0 : 0 < area ps) :
    Calls Try.prog 67 #[.slice (some ⟨b, 0, none⟩) ps.length c, .slice (some ⟨g, 0, none⟩) 1 1] w fun e w' => e = .returned (.tuple #[.agg #[.slice (some ⟨b, 0, none⟩) ps.length c, .int .i64 (mid ps).1, .int .i64 (mid ps).2.1, .int .i64 (mid ps).2.2], .int .i64 0]) ∧ Below w.heap.size w w' := by
  have ha : areP ps = true := by unfold chk at hck; exact (Bool.and_eq_true _ _ ▸ hck : _ ∧ _).1
  have hlen := areP_len ha
  have HC : Hid (∀ W, PtsAt W b 0 ps → Calls Try.prog 20 #[.slice (some ⟨b, 0, none⟩) ps.length c] W fun e w' => e = .returned (.int .i64 0) ∧ Below W.heap.size W w') := Lib.hid (fun W h => by
    have := check_any ps b c W h (by omega)
    rw [hck] at this; exact this)
  have HM := Lib.hid (fun W (h : PtsAt W b 0 ps) => middleOf_any ps b c W h ha hD0)
  obtain ⟨X, Y, D, hm⟩ : ∃ X Y D, mid ps = (X, Y, D) := ⟨_, _, _, rfl⟩
  rw [hm] at HM ⊢
  dsimp only at HM ⊢
  have HP := Lib.hid hp
  clear hp hck hD0 ha hm
  go_enter Try.func67, Try.ntmps67
  go_wp2_with fail
  obtain ⟨W0, hW0⟩ : ∃ W0, W0 = w.alloc (.cells #[.slice none 0 0, .int .i64 0, .int .i64 0, .int .i64 0] 81) := ⟨_, rfl⟩
  have B0 := Lib.hid (show Below w.heap.size w W0 by rw [hW0]; exact (Below.refl _ _).alloc (Nat.le_refl _) _)
  have l0 : w.heap.size < W0.heap.size := by rw [hW0]; simp
  have r0 := Lib.hid (show Row W0 w.heap.size 81 [.slice none 0 0, .int .i64 0, .int .i64 0, .int .i64 0] by rw [hW0]; exact Row.new _ _ _)
  rw [← hW0]
  clear hW0
  refine (HC.out W0 (HP.out.grow B0.out)).mono ?_
  rintro e w1 ⟨rfl, hb1⟩
  have T1 := Lib.hid (Below.andThen B0.out hb1 (Nat.le_refl _))
  have r1 := Lib.hid (r0.out.below hb1 l0)
  have l1 : w.heap.size < w1.heap.size := Nat.lt_of_lt_of_le l0 hb1.size
  clear hb1 r0 B0 l0
  have hgc1 := below_at T1.out hg hgc
  have t1 : decide ((s : Int) < 0) = false := by simp
  have t2 : decide ((ps.length : Int) ≤ (s : Int)) = false := by simp; omega
  clear hgc
  go_wp2_with fail
  go_loopw [17] (fun i wr => ∃ k : Nat, k ≤ 1 ∧ i = .int .i64 (k : Int) ∧ wr = w1) (fun i _ => 1 - (intOf i).toNat)
  case atStart => exact ⟨0, by omega, rfl, rfl⟩
  case round =>
    obtain ⟨k, hk, rfl, rfl⟩ := hrel
    by_cases hk0 : k = 0
    · subst hk0
      go_wp2_with fail
      go_roundw
      case rel => exact ⟨1, by omega, rfl, trivial⟩
      case measure => simp [intOf]
    obtain rfl : k = 1 := by omega
    clear hk0
    go_wp2_with fail
    refine (HM.out _ (HP.out.grow T1.out)).mono ?_
    rintro e w2 ⟨rfl, hb2⟩
    have T2 := Lib.hid (Below.andThen T1.out hb2 (Nat.le_refl _))
    have rr := r1.out.below hb2 l1
    have q0 := rr.cell 0
    have q1 := rr.cell 1
    have q2 := rr.cell 2
    have q3 := rr.cell 3
    have f0 := frozen_of_row _ w.heap.size 0 _ _ rr
    have f1 := frozen_of_row _ w.heap.size 1 _ _ rr
    have f2 := frozen_of_row _ w.heap.size 2 _ _ rr
    have f3 := frozen_of_row _ w.heap.size 3 _ _ rr
    simp only [List.getElem?_cons_zero, List.getElem?_cons_succ] at q0 q1 q2 q3
    have RR := Lib.hid rr
    clear hb2 rr
    go_wp2_with fail
    have hr : Row ((((w2.setCell ⟨w.heap.size, 0, none⟩ (.slice (some ⟨b, 0, none⟩) ps.length c)).setCell ⟨w.heap.size, 1, none⟩ (.int .i64 X)).setCell ⟨w.heap.size, 2, none⟩ (.int .i64 Y)).setCell ⟨w.heap.size, 3, none⟩ (.int .i64 D)) w.heap.size 81 [.slice (some ⟨b, 0, none⟩) ps.length c, .int .i64 X, .int .i64 Y, .int .i64 D] := by
      simpa using (((RR.out.set 0 (.slice (some ⟨b, 0, none⟩) ps.length c)).set 1 (.int .i64 X)).set 2 (.int .i64 Y)).set 3 (.int .i64 D)
    have v0 := hr.cell 0
    have v1 := hr.cell 1
    have v2 := hr.cell 2
    have v3 := hr.cell 3
    simp only [List.getElem?_cons_zero, List.getElem?_cons_succ] at v0 v1 v2 v3
    refine bodyPost_ret (v := .tuple #[.agg #[.slice (some ⟨b, 0, none⟩) ps.length c, .int .i64 X, .int .i64 Y, .int .i64 D], .int .i64 0]) (by simp [results, Try.results67, go_sem, v0, v1, v2, v3]) rfl ⟨rfl, ?_⟩
    exact (((T2.out.setCell (p := ⟨w.heap.size, 0, none⟩) (Nat.le_refl _) _).setCell (p := ⟨w.heap.size, 1, none⟩) (Nat.le_refl _) _).setCell (p := ⟨w.heap.size, 2, none⟩) (Nat.le_refl _) _).setCell (p := ⟨w.heap.size, 3, none⟩) (Nat.le_refl _) _
end Go.Proofs.Ytlehddifcjklgaa
namespace Go.Proofs.Ytlehddifcjklgaa
open Go.RowKit Go.Shelf
attribute [local go_sem] Oper.semAt_some
set_option maxHeartbeats 1000000 in
theorem Middle_any (ps : List Pt) (b c : Nat) (w : World) (hp : PtsAt w b 0 ps) (hck : chk ps = true) (hD0 : 0 < area ps) :
    Calls Try.prog 22 #[.slice (some ⟨b, 0, none⟩) ps.length c] w fun e w' => e = .returned (.tuple #[.agg #[.int .i64 (mid ps).1, .int .i64 (mid ps).2.1, .int .i64 (mid ps).2.2], .int .i64 0]) ∧ Below w.heap.size w w' := by
  have HM := Lib.hid (fun W (h : PtsAt W b 0 ps) => bodyOf_none ps b c W h hck hD0)
  obtain ⟨X, Y, D, hm⟩ : ∃ X Y D, mid ps = (X, Y, D) := ⟨_, _, _, rfl⟩
  rw [hm] at HM ⊢
  dsimp only at HM ⊢
  have HP := Lib.hid hp
  clear hp hck hD0 hm
  go_enter Try.func22, Try.ntmps22
  go_wp2_with fail
  obtain ⟨W0, hW0⟩ : ∃ W0, W0 = w.alloc (.cells #[.int .i64 0, .int .i64 0, .int .i64 0] 29) := ⟨_, rfl⟩
  have B0 := Lib.hid (show Below w.heap.size w W0 by rw [hW0]; exact (Below.refl _ _).alloc (Nat.le_refl _) _)
  have l0 : w.heap.size < W0.heap.size := by rw [hW0]; simp
  have r0 := Lib.hid (show Row W0 w.heap.size 29 [.int .i64 0, .int .i64 0, .int .i64 0] by rw [hW0]; exact Row.new _ _ _)
  rw [← hW0]
  clear hW0
  refine (HM.out W0 (HP.out.grow B0.out)).mono ?_
  rintro e w1 ⟨rfl, hb1⟩
  obtain ⟨V, hV⟩ : ∃ V, V = w1.alloc (.cells #[.slice (some ⟨b, 0, none⟩) ps.length c, .int .i64 X, .int .i64 Y, .int .i64 D] 81) := ⟨_, rfl⟩
  have BV := Lib.hid (show Below w.heap.size w V by rw [hV]; exact Below.al (Below.andThen B0.out hb1 (Nat.le_refl _)) (Nat.le_refl _) _)
  have rb : Row V w1.heap.size 81 [.slice (some ⟨b, 0, none⟩) ps.length c, .int .i64 X, .int .i64 Y, .int .i64 D] := by rw [hV]; exact Row.new _ _ _
  have rr : Row V w.heap.size 29 [.int .i64 0, .int .i64 0, .int .i64 0] := by
    rw [hV]; exact (r0.out.below hb1 l0).below ((Below.refl _ _).alloc (Nat.le_refl _) _) (Nat.lt_of_lt_of_le l0 hb1.size)
  have b1 := rb.cell 1
  have b2 := rb.cell 2
  have b3 := rb.cell 3
  have q0 := rr.cell 0
  have q1 := rr.cell 1
  have q2 := rr.cell 2
  have f0 := frozen_of_row _ w.heap.size 0 _ _ rr
  have f1 := frozen_of_row _ w.heap.size 1 _ _ rr
  have f2 := frozen_of_row _ w.heap.size 2 _ _ rr
  simp only [List.getElem?_cons_zero, List.getElem?_cons_succ] at q0 q1 q2 b1 b2 b3
  have RR := Lib.hid rr
  clear rr rb hb1
  rw [hV] at q0 q1 q2 f0 f1 f2 b1 b2 b3
  go_wp2_with fail
  rw [← hV]
  clear hV
  have hr : Row (((V.setCell ⟨w.heap.size, 0, none⟩ (.int .i64 X)).setCell ⟨w.heap.size, 1, none⟩ (.int .i64 Y)).setCell ⟨w.heap.size, 2, none⟩ (.int .i64 D)) w.heap.size 29 [.int .i64 X, .int .i64 Y, .int .i64 D] := by
    simpa using ((RR.out.set 0 (.int .i64 X)).set 1 (.int .i64 Y)).set 2 (.int .i64 D)
  have v0 := hr.cell 0
  have v1 := hr.cell 1
  have v2 := hr.cell 2
  simp only [List.getElem?_cons_zero, List.getElem?_cons_succ] at v0 v1 v2
  refine bodyPost_ret (v := .tuple #[.agg #[.int .i64 X, .int .i64 Y, .int .i64 D], .int .i64 0]) (by simp [results, Try.results22, go_sem, v0, v1, v2]) rfl ⟨rfl, ?_⟩
  exact ((BV.out.setCell (p := ⟨w.heap.size, 0, none⟩) (Nat.le_refl _) _).setCell (p := ⟨w.heap.size, 1, none⟩) (Nat.le_refl _) _).setCell (p := ⟨w.heap.size, 2, none⟩) (Nat.le_refl _) _

theorem ownsRow_lower {W : World} {n₀ m₀ e k s : Nat} {u : Value} {xs : List Value} (h : W.ownsRow n₀ e s u k xs) (hm : m₀ ≤ n₀) : W.ownsRow m₀ e s u k xs :=
  ⟨h.1, h.2.imp id (fun ⟨g, cap, cur, h1, h2, h3⟩ => ⟨g, cap, cur, h1, Nat.le_trans hm h2, h3⟩)⟩
end Go.Proofs.Ytlehddifcjklgaa
namespace Go.Proofs.Ytlehddifcjklgaa
open Go.RowKit Go.Shelf
attribute [local go_sem] Oper.semAt_some
theorem own_grow {W W' : World} {n₀ e s k : Nat} {u : Value} {xs : List Value} (h : W.ownsRow n₀ e s u k xs) (hb : Below W.heap.size W W') : W'.ownsRow n₀ e s u k xs :=
  h.kept (row := none) ⟨hb.os, hb.tape, hb.output, hb.size, fun k hk _ => hb.block k hk⟩ (by
    cases h : u.ownBlock with
    | none => exact .inl rfl
    | some g => right; simp)
theorem own_below {W0 W w2 : World} {o : Obj} {k : Nat} {v : Value} {xs : List Value} (h : W.ownsRow W0.heap.size 3 1 v k xs) (hb : Below W0.heap.size W0 W) (hg : (W.alloc o).grownBy w2 v.ownBlock) : Below W0.heap.size W0 w2 :=
  (Below.al hb (Nat.le_refl _) o).grown hg (Nat.le_trans hb.size (by simp)) (fun r e => by
    rcases h.2 with ⟨rfl, _⟩ | ⟨g', cap, cur, rfl, h1, _⟩
    · simp [Value.ownBlock] at e
    · simp [Value.ownBlock] at e; omega)
/-- the sides up to k of which p holds, as numbers -/
def sidesL (p : Nat → Bool) (k : Nat) : List Int := ((List.range k).filter p).map Int.ofNat
theorem sidesL_succ (p : Nat → Bool) (k : Nat) : sidesL p (k + 1) = if p k then sidesL p k ++ [(k : Int)] else sidesL p k := by
  unfold sidesL; rw [List.range_succ, List.filter_append, List.map_append]
  cases h : p k <;> simp [h]
theorem sidesL_length (p : Nat → Bool) (k : Nat) : (sidesL p k).length ≤ k := by
  unfold sidesL; rw [List.length_map]
  exact Nat.le_trans (List.length_filter_le _ _) (by simp)
set_option maxRecDepth 100000 in
set_option maxHeartbeats 1000000 in
theorem which_any (fx : Nat) (p : Nat → Bool) (ps : List Pt) (b c : Nat) (X Y D : Int) (w : World) (hl : ps.length ≤ 12) (hp : PtsAt w b 0 ps)
    (hf : ∀ s W, s < ps.length → PtsAt W b 0 ps → Calls Try.prog fx #[.agg #[.slice (some ⟨b, 0, none⟩) ps.length c, .int .i64 X, .int .i64 Y, .int .i64 D], .int .i64 (s : Int)] W fun e w' => e = .returned (.bool (p s)) ∧ Below W.heap.size W w') (hent : ∀ args w, (callFunc fx args).run Try.prog w = .ok (.enter fx args) w) :
    Calls Try.prog 68 #[.agg #[.slice (some ⟨b, 0, none⟩) ps.length c, .int .i64 X, .int .i64 Y, .int .i64 D], .func (.func fx) #[.agg #[.slice (some ⟨b, 0, none⟩) ps.length c, .int .i64 X, .int .i64 Y, .int .i64 D]] #[]] w
      fun e w' => ∃ v, e = .returned v ∧ w'.ownsRow w.heap.size 3 1 v (sidesL p ps.length).length ((sidesL p ps.length).map encI) ∧ Below w.heap.size w w' := by
  obtain ⟨i0, hi, hz0, hz1, hz2⟩ := info_parts info3
  have HF := Lib.hid hf
  have HP := Lib.hid hp
  clear hf hp
  go_enter Try.func68, Try.ntmps68
  go_wp2_with fail
  obtain ⟨W0, hW0⟩ : ∃ W0, W0 = w.alloc (.cells #[.slice (some ⟨b, 0, none⟩) ps.length c, .int .i64 X, .int .i64 Y, .int .i64 D] 81) := ⟨_, rfl⟩
  have B0 := Lib.hid (show Below w.heap.size w W0 by rw [hW0]; exact (Below.refl _ _).alloc (Nat.le_refl _) _)
  rw [← hW0]
  clear hW0
  have HP0 := Lib.hid (HP.out.grow B0.out)
  go_loopw [5, 10] (fun v i wr => ∃ k : Nat, k ≤ ps.length ∧ i = .int .i64 (k : Int) ∧ Hid (wr.ownsRow W0.heap.size 3 1 v (sidesL p k).length ((sidesL p k).map encI)) ∧ Hid (Below W0.heap.size W0 wr)) (fun _ i _ => ps.length - (intOf i).toNat)
  case atStart => exact ⟨0, by omega, rfl, Lib.hid (World.ownsRow_nil _ _ _ _), Lib.hid (Below.refl _ _)⟩
  case round =>
    obtain ⟨k, hk, rfl, HR, HB⟩ := hrel
    by_cases hlt : k < ps.length
    · have hd : decide ((k : Int) < (ps.length : Int)) = true := by simp; omega
      go_wp2_with fail
      refine (HF.out k wr hlt (HP0.out.grow HB.out)).mono ?_
      rintro e w1 ⟨rfl, hb⟩
      have HB1 := Lib.hid (Below.andThen HB.out hb (Nat.le_refl _))
      have HR1 := Lib.hid (own_grow HR.out hb)
      have hll := sidesL_length p k
      clear hb HB HR
      cases hpk : p k
      · have e1 : sidesL p (k + 1) = sidesL p k := by rw [sidesL_succ, hpk]; rfl
        have E1 := Lib.hid e1
        clear e1 hpk
        go_wp2_with fail
        go_roundw
        case rel => exact ⟨k + 1, by omega, rfl, by rw [E1.out]; exact HR1, HB1⟩
        case measure => simp [intOf]; omega
      · have e1 : sidesL p (k + 1) = sidesL p k ++ [(k : Int)] := by rw [sidesL_succ, hpk]; rfl
        have E1 := Lib.hid e1
        clear e1 hpk
        generalize sidesL p k = L at *
        go_wp2_with (at_builtin; refine wpList_append_own_at _ rfl _ _ 32 rfl W0.heap.size 3 i0 (.int .i64 0) 1 8 Try.underlying32 hi hz0 hz1 hz2 rfl (by decide) _ _ _ rfl (HR1.out.alloc _) _ 1 1 [encI (k : Int)] rfl rfl (cell_one_at _ _ _ _ (by simp)) (by simp [Value.oneCell', encI]) (by unfold maxLen; omega) (by omega) (Nat.le_trans HB1.out.size (by simp)) ?_; intro v' w2 hown' hgrow hnil hat; have HR2 := Lib.hid hown'; have HB2 := Lib.hid (own_below HR1.out HB1.out hgrow); clear hown' hgrow hnil hat)
        go_roundw
        case rel => exact ⟨k + 1, by omega, rfl, by rw [E1.out]; exact Lib.hid (by simpa using HR2.out), HB2⟩
        case measure => simp [intOf]; omega
    · have hd : decide ((k : Int) < (ps.length : Int)) = false := by simp; omega
      obtain rfl : k = ps.length := by omega
      go_wp2_with fail
      go_ret
      exact ⟨_, rfl, ownsRow_lower HR.out B0.out.size, Below.andThen B0.out HB.out (Nat.le_refl _)⟩
end Go.Proofs.Ytlehddifcjklgaa
namespace Go.Proofs.Ytlehddifcjklgaa
open Go.RowKit Go.Shelf
attribute [local go_sem] Oper.semAt_some
theorem gcdI_dvd_right (n d : Int) : gcdI n d ∣ d := by unfold gcdI; exact Int.gcd_dvd_right ..
theorem tdiv_pos {d g : Int} (hd : 0 < d) (hg : 0 < g) (h : g ∣ d) : 0 < d.tdiv g := by
  obtain ⟨k, rfl⟩ := h
  rw [Int.mul_tdiv_cancel_left _ (by omega)]
  exact Int.pos_of_mul_pos_right (by omega) (by omega) |> fun h => by
    rcases Int.lt_trichotomy k 0 with h | h | h
    · have := Int.mul_neg_of_pos_of_neg hg h; omega
    · subst h; simp at hd
    · exact h
theorem mid_facts {ps : List Pt} (ha : areP ps = true) (hD0 : 0 < area ps) : Bd 400000 (mid ps).1 ∧ Bd 400000 (mid ps).2.1 ∧ Bd 30000 (mid ps).2.2 ∧ 0 < (mid ps).2.2 := by
  have bA := sum_upto_bd ha (crsAt ps) 800 (by omega) (fun x hx => crsAt_bd ha hx)
  have bX := sum_upto_bd ha (xAt ps) 32000 (by omega) (fun x hx => xAt_bd ha hx)
  have bY := sum_upto_bd ha (yAt ps) 32000 (by omega) (fun x hx => yAt_bd ha hx)
  have e1 : ((upto ps.length).map (crsAt ps)).sum = area ps := rfl
  have e2 : ((upto ps.length).map (xAt ps)).sum = xSum ps := rfl
  have e3 : ((upto ps.length).map (yAt ps)).sum = ySum ps := rfl
  rw [e1] at bA
  rw [e2] at bX
  rw [e3] at bY
  have bD : Bd 30000 (3 * area ps) := by unfold Bd at *; omega
  refine ⟨(bX.mono (by omega)).tdiv, (bY.mono (by omega)).tdiv, bD.tdiv, tdiv_pos (by omega) (gcdI_pos (by omega)) (gcdI_dvd_right _ _)⟩
theorem dt_pos {a : Pt} (h : ¬ (a.1 = 0 ∧ a.2 = 0)) : 0 < dt a a := by
  unfold dt
  have h1 : 0 ≤ a.1 * a.1 := by
    rcases Int.le_total 0 a.1 with h | h
    · exact Int.mul_nonneg h h
    · exact Int.mul_nonneg_of_nonpos_of_nonpos h h
  have h2 : 0 ≤ a.2 * a.2 := by
    rcases Int.le_total 0 a.2 with h | h
    · exact Int.mul_nonneg h h
    · exact Int.mul_nonneg_of_nonpos_of_nonpos h h
  by_cases e1 : a.1 = 0
  · have e2 : a.2 ≠ 0 := fun e => h ⟨e1, e⟩
    have : a.2 * a.2 ≠ 0 := Int.mul_ne_zero e2 e2
    omega
  · have : a.1 * a.1 ≠ 0 := Int.mul_ne_zero e1 e1
    omega
theorem along_pos {ps : List Pt} (hck : chk ps = true) {s : Nat} (hs : s < ps.length) : 0 < dt (alongS ps s) (alongS ps s) := by
  refine dt_pos fun ⟨e1, e2⟩ => ?_
  unfold chk at hck
  have hp : areP ps = true ∧ (List.range ps.length).all (sideAt ps) = true := by simpa using hck
  have h3 := areP_len hp.1
  have h := List.all_eq_true.1 hp.2 s (List.mem_range.2 hs)
  unfold sideAt isSide at h
  have hc := of_decide_eq_true h
  have hpos : 0 < ps.countP (lft (ptAt ps s) (nx ps s)) := by omega
  obtain ⟨q, _, hq⟩ := List.countP_pos_iff.1 hpos
  unfold lft at hq
  have hq2 := of_decide_eq_true hq
  have e : mn (nx ps s) (ptAt ps s) = alongS ps s := rfl
  rw [e] at hq2
  unfold crs at hq2
  rw [e1, e2] at hq2
  simp at hq2
set_option maxHeartbeats 1000000 in
theorem Firm_any (ps : List Pt) (b c : Nat) (w : World) (hp : PtsAt w b 0 ps) (hck : chk ps = true) (hD0 : 0 < area ps) :
    Calls Try.prog 24 #[.slice (some ⟨b, 0, none⟩) ps.length c] w fun e w' => ∃ v, e = .returned (.tuple #[v, .int .i64 0]) ∧ w'.ownsRow w.heap.size 3 1 v (sidesL (firmB ps (mid ps)) ps.length).length ((sidesL (firmB ps (mid ps)) ps.length).map encI) ∧ Below w.heap.size w w' := by
  have ha : areP ps = true := by unfold chk at hck; exact (Bool.and_eq_true _ _ ▸ hck : _ ∧ _).1
  obtain ⟨h3, h12⟩ := areP_len ha
  have HM := Lib.hid (fun W (h : PtsAt W b 0 ps) => bodyOf_none ps b c W h hck hD0)
  obtain ⟨m1, m2, m3, m4⟩ := mid_facts ha hD0
  have HW := Lib.hid (fun W (h : PtsAt W b 0 ps) => which_any 70 (firmB ps (mid ps)) ps b c (mid ps).1 (mid ps).2.1 (mid ps).2.2 W h12 h
    (fun s W' hs hp' => isFirm_any ps b c (mid ps).1 (mid ps).2.1 (mid ps).2.2 s W' hp' ha hs m1 m2 m3 m4 (along_pos hck hs)) (fun args w => by kernel_rfl))
  obtain ⟨X, hX⟩ : ∃ X, (mid ps).1 = X := ⟨_, rfl⟩
  obtain ⟨Y, hY⟩ : ∃ Y, (mid ps).2.1 = Y := ⟨_, rfl⟩
  obtain ⟨D, hD⟩ : ∃ D, (mid ps).2.2 = D := ⟨_, rfl⟩
  rw [hX, hY, hD] at HM HW
  generalize sidesL (firmB ps (mid ps)) ps.length = L at *
  have HP := Lib.hid hp
  clear hp hck hD0 ha m1 m2 m3 m4 hX hY hD
  go_enter Try.func24, Try.ntmps24
  go_wp2_with fail
  refine (HM.out w HP.out).mono ?_
  rintro e w1 ⟨rfl, hb1⟩
  have T1 := Lib.hid (Below.al hb1 (Nat.le_refl _) (.cells #[.slice (some ⟨b, 0, none⟩) ps.length c, .int .i64 X, .int .i64 Y, .int .i64 D] 81))
  clear hb1
  go_wp2_with fail
  refine (HW.out _ (HP.out.grow T1.out)).mono ?_
  rintro e w2 ⟨v, rfl, hr, hb2⟩
  have T2 := Lib.hid (Below.andThen T1.out hb2 (Nat.le_refl _))
  have HR := Lib.hid (ownsRow_lower hr T1.out.size)
  clear hr hb2
  go_wp2_with fail
  exact bodyPost_ret (v := .tuple #[v, .int .i64 0]) (by simp [results, Try.results24, go_sem]) rfl ⟨v, rfl, HR.out, T2.out⟩
end Go.Proofs.Ytlehddifcjklgaa
namespace Go.Proofs.Ytlehddifcjklgaa
open Go.RowKit Go.Shelf
attribute [local go_sem] Oper.semAt_some
theorem body_cells {W : World} {B : Nat} {v0 v1 v2 v3 : Value} (h : Row W B 81 [v0, v1, v2, v3]) :
    W.cell? ⟨B, 0, none⟩ = some v0 ∧ W.cell? ⟨B, 1, none⟩ = some v1 ∧ W.cell? ⟨B, 2, none⟩ = some v2 ∧ W.cell? ⟨B, 3, none⟩ = some v3 := ⟨h.cell 0, h.cell 1, h.cell 2, h.cell 3⟩
/-- the sides over which a hull rolls, if that ends within so many -/
def rollF (ps : List Pt) (m : Int × Int × Int) : Nat → Nat → Option (List Int)
  | 0, _ => none
  | f + 1, s =>
    if lessF (foot ps m s) (0, 1) then (rollF ps m f ((s + ps.length - 1) % ps.length)).map ((s : Int) :: ·)
    else if lessF (1, 1) (foot ps m s) then (rollF ps m f ((s + 1) % ps.length)).map ((s : Int) :: ·)
    else some [(s : Int)]
def lenOfV : Value → Nat
  | .slice _ l _ => l
  | _ => 0
theorem own_len {W : World} {n₀ e k s : Nat} {u : Value} {xs : List Value} (h : W.ownsRow n₀ e s u k xs) : lenOfV u = k := by
  rcases h.2 with ⟨rfl, h0⟩ | ⟨g, cap, cur, rfl, _⟩
  · exact h0.symm
  · rfl
set_option maxRecDepth 100000 in
set_option maxHeartbeats 2000000 in
theorem Roll_any (ps : List Pt) (b c s f : Nat) (T : List Int) (w : World) (hp : PtsAt w b 0 ps) (hck : chk ps = true) (hD0 : 0 < area ps) (hs : s < ps.length) (hT : rollF ps (mid ps) f s = some T) (hTl : T.length ≤ 1000) :
    Calls Try.prog 29 #[.slice (some ⟨b, 0, none⟩) ps.length c, .int .i64 (s : Int)] w fun e w' => ∃ v, e = .returned (.tuple #[v, .int .i64 0]) ∧ w'.ownsRow w.heap.size 3 1 v T.length (T.map encI) ∧ Below w.heap.size w w' := by
  have ha : areP ps = true := by unfold chk at hck; exact (Bool.and_eq_true _ _ ▸ hck : _ ∧ _).1
  obtain ⟨h3, h12⟩ := areP_len ha
  obtain ⟨i0, hi, hz0, hz1, hz2⟩ := info_parts info3
  have HM := Lib.hid (fun W g s (hg : g < W.heap.size) hgc hs (h : PtsAt W b 0 ps) => bodyOf_one ps b c W g s hg hgc hs h hck hD0)
  obtain ⟨m1, m2, m3, m4⟩ := mid_facts ha hD0
  have HF := Lib.hid (fun W s (hs : s < ps.length) (h : PtsAt W b 0 ps) => foot_any ps b c (mid ps).1 (mid ps).2.1 (mid ps).2.2 s W h ha hs m1 m2 m3 m4 (along_pos hck hs))
  have HFB := Lib.hid (fun s (hs : s < ps.length) => foot_bd (s := s) ha hs m1 m2 m3)
  have HT := Lib.hid hT
  have em : ((mid ps).1, (mid ps).2.1, (mid ps).2.2) = mid ps := rfl
  rw [em] at HF HFB
  obtain ⟨X, hX⟩ : ∃ X, (mid ps).1 = X := ⟨_, rfl⟩
  obtain ⟨Y, hY⟩ : ∃ Y, (mid ps).2.1 = Y := ⟨_, rfl⟩
  obtain ⟨D, hD⟩ : ∃ D, (mid ps).2.2 = D := ⟨_, rfl⟩
  rw [hX, hY, hD] at HM HF
  generalize mid ps = mm at *
  have HP := Lib.hid hp
  have hbl := hp.lt
  clear hp hck hD0 m1 m2 m3 m4 hX hY hD em hT
  go_enter Try.func29, Try.ntmps29
  go_wp2_with fail
  go_step3
  go_wp2_with fail
  have B0 := Lib.hid (show Below w.heap.size w (w.alloc (.cells #[.int .i64 (s : Int)] 3)) from (Below.refl _ _).alloc (Nat.le_refl _) _)
  refine (HM.out _ w.heap.size s (by simp) (by simp [cell_al]) hs (HP.out.grow B0.out)).mono ?_
  rintro e w1 ⟨rfl, hb1⟩
  obtain ⟨V, hV⟩ : ∃ V, V = w1.alloc (.cells #[.slice (some ⟨b, 0, none⟩) ps.length c, .int .i64 X, .int .i64 Y, .int .i64 D] 81) := ⟨_, rfl⟩
  have BV := Lib.hid (show Below w.heap.size w V by rw [hV]; exact Below.al (Below.andThen B0.out hb1 (Nat.le_refl _)) (Nat.le_refl _) _)
  have rb := Lib.hid (show Row V w1.heap.size 81 [.slice (some ⟨b, 0, none⟩) ps.length c, .int .i64 X, .int .i64 Y, .int .i64 D] by rw [hV]; exact Row.new _ _ _)
  have l1 : w1.heap.size < V.heap.size := by rw [hV]; simp
  clear hb1
  go_wp2_with fail
  rw [← hV]
  clear hV
  have HPV := Lib.hid (HP.out.grow BV.out)
  go_step3
  go_wp2_with fail
  go_loopw [9, 1] (fun v sd wr => ∃ (L R : List Int) (t g : Nat), sd = .int .i64 (t : Int) ∧ t < ps.length ∧ Hid (wr.ownsRow V.heap.size 3 1 v L.length (L.map encI)) ∧ Hid (Below V.heap.size V wr) ∧ Hid (rollF ps mm g t = some R) ∧ Hid (T = L ++ R)) (fun v _ _ => T.length + 1 - lenOfV v)
  case atStart => exact ⟨[], T, s, f, rfl, hs, Lib.hid (World.ownsRow_nil _ _ _ _), Lib.hid (Below.refl _ _), HT, Lib.hid rfl⟩
  case round =>
    obtain ⟨L, R, t, g, rfl, ht, HR, HB, HG, HL⟩ := hrel
    have hg0 : ∃ g', g = g' + 1 := by
      cases g with
      | zero => have := HG.out; simp [rollF] at this
      | succ g' => exact ⟨g', rfl⟩
    obtain ⟨g', rfl⟩ := hg0
    have hR1 : 1 ≤ R.length := by
      have h := HG.out
      unfold rollF at h
      split at h
      · cases h2 : rollF ps mm g' ((t + ps.length - 1) % ps.length) with
        | none => rw [h2] at h; cases h
        | some r => rw [h2] at h; cases h; simp
      · split at h
        · cases h2 : rollF ps mm g' ((t + 1) % ps.length) with
          | none => rw [h2] at h; cases h
          | some r => rw [h2] at h; cases h; simp
        · cases h; simp
    have hTL : T.length = L.length + R.length := by rw [HL.out, List.length_append]
    have hLl : L.length ≤ 999 := by omega
    have HTL := Lib.hid hTL
    have HLEN := Lib.hid (own_len HR.out)
    clear hTL
    go_wp2_with (at_builtin; refine wpList_append_own_at _ rfl _ _ 32 rfl V.heap.size 3 i0 (.int .i64 0) 1 8 Try.underlying32 hi hz0 hz1 hz2 rfl (by decide) _ _ _ rfl (HR.out.alloc _) _ 1 1 [encI (t : Int)] rfl rfl (cell_one_at _ _ _ _ (by simp)) (by simp [Value.oneCell', encI]) (by unfold maxLen; omega) (by omega) (Nat.le_trans HB.out.size (by simp)) ?_; intro v' w2 hown' hgrow hnil hat; have HR2 := Lib.hid hown'; have HB2 := Lib.hid (own_below HR.out HB.out hgrow); have HLEN2 := Lib.hid (own_len hown'); obtain ⟨c0, c1, c2, c3⟩ := body_cells (rb.out.below HB2.out l1); clear hown' hgrow hnil hat)
    obtain ⟨fn, fd, hfo⟩ : ∃ fn fd, foot ps mm t = (fn, fd) := ⟨_, _, rfl⟩
    have hF := HF.out w2 t ht (HPV.out.grow HB2.out)
    have hfb := HFB.out t ht
    have hG := HG.out
    unfold rollF at hG
    rw [hfo] at hF hfb hG
    dsimp only at hF hfb
    have k1 := Lib.hid (show Bd 4000000000000000000 (fn * 1) by rw [Int.mul_one]; exact hfb.1.mono (by omega))
    have k2 := Lib.hid (show Bd 4000000000000000000 (0 * fd) by rw [Int.zero_mul]; unfold Bd; omega)
    have k3 := Lib.hid (show Bd 4000000000000000000 (1 * fd) by rw [Int.one_mul]; exact hfb.2.mono (by omega))
    refine hF.mono ?_
    rintro e w3 ⟨rfl, hb3⟩
    obtain ⟨Z, hZ⟩ : ∃ Z, Z = w3.alloc (.cells #[.int .i64 fn, .int .i64 fd] 88) := ⟨_, rfl⟩
    have BZ : Below w2.heap.size w2 Z := by rw [hZ]; exact Below.al hb3 (Nat.le_refl _) _
    have HB4 := Lib.hid (Below.andThen HB2.out BZ (Nat.le_refl _))
    have HR4 := Lib.hid (own_grow HR2.out BZ)
    have z0 : Z.cell? ⟨w3.heap.size, 0, none⟩ = some (.int .i64 fn) := by rw [hZ]; simp [cell_al]
    have z1 : Z.cell? ⟨w3.heap.size, 1, none⟩ = some (.int .i64 fd) := by rw [hZ]; simp [cell_al]
    have lz : w3.heap.size < Z.heap.size := by rw [hZ]; simp
    have HGG := Lib.hid hG
    clear hb3 BZ hF hfb hG hfo c0 c1 c2 c3 HG HR2 HB2 HR HB
    go_wp2_with fail
    rw [← hZ]
    clear hZ
    have x0 := Kl.cell lz z0
    have x1 := Kl.cell lz z1
    refine wp_region_below (by kernel_rfl) (by kernel_rfl) ?_
    repeat (go_big_quiet_step (first | (go_at_call 78; exact Kl.call (whole_any _ _)) | (go_at_call 75; exact Kl.call (less_any fn fd 0 1 _ k1.out k2.out))))
    refine wpQuiet_nil ?_
    rintro _ ⟨wq, rfl⟩
    have y0 := below_at wq.h lz z0
    have y1 := below_at wq.h lz z1
    have lq : w3.heap.size < wq.W.heap.size := Nat.lt_of_lt_of_le lz wq.h.size
    have HB5 := Lib.hid (Below.andThen HB4.out wq.h (Nat.le_refl _))
    have HR5 := Lib.hid (own_grow HR4.out wq.h)
    clear z0 z1 x0 x1
    generalize wq.W = w5 at *
    cases h1 : lessF (fn, fd) (0, 1)
    · have H1 := Lib.hid h1
      clear h1
      go_wp2_with fail
      have x0 := Kl.cell lq y0
      have x1 := Kl.cell lq y1
      refine wp_region_below (by kernel_rfl) (by kernel_rfl) ?_
      repeat (go_big_quiet_step (first | (go_at_call 78; exact Kl.call (whole_any _ _)) | (go_at_call 75; exact Kl.call (less_any 1 1 fn fd _ k3.out k1.out))))
      refine wpQuiet_nil ?_
      rintro _ ⟨wr, rfl⟩
      have HB6 := Lib.hid (Below.andThen HB5.out wr.h (Nat.le_refl _))
      have HR6 := Lib.hid (own_grow HR5.out wr.h)
      clear x0 x1 y0 y1
      generalize wr.W = w6 at *
      cases h2 : lessF (1, 1) (fn, fd)
      · have HRR : Hid (R = [(t : Int)]) := Lib.hid (by
          have := HGG.out; rw [H1.out, h2] at this; simpa using this.symm)
        clear h2
        go_wp2_with fail
        rw [Exit.noGoto_ret]
        refine bodyPost_ret (v := .tuple #[v', .int .i64 0]) (by simp [results, Try.results29, go_sem]) rfl ⟨v', rfl, ?_, Below.andThen BV.out HB6.out (Nat.le_refl _)⟩
        rw [HL.out, HRR.out]
        simpa using ownsRow_lower HR6.out BV.out.size
      · have hG2 := HGG.out
        rw [H1.out, h2] at hG2
        simp only [Bool.false_eq_true, if_false, if_true] at hG2
        obtain ⟨R', hR', hRR⟩ : ∃ R', rollF ps mm g' ((t + 1) % ps.length) = some R' ∧ R = (t : Int) :: R' := by
          cases h3 : rollF ps mm g' ((t + 1) % ps.length) with
          | none => rw [h3] at hG2; cases hG2
          | some r => rw [h3] at hG2; cases hG2; exact ⟨r, rfl, rfl⟩
        have HG' := Lib.hid hR'
        have HRR := Lib.hid hRR
        have e4 : IntKind.i64.wrap ((t : Int) + 1) = ((t + 1 : Nat) : Int) := by rw [i64_of _ (by omega) (by omega)]; omega
        have e5 : (((t + 1 : Nat) : Int)).tmod (ps.length : Int) = (((t + 1) % ps.length : Nat) : Int) := by rw [← Int.ofNat_tmod]
        have e7 : ((t : Int) + 1) % (ps.length : Int) = (((t + 1) % ps.length : Nat) : Int) := by rw [show (t : Int) + 1 = ((t + 1 : Nat) : Int) by omega]; rfl
        have e6 : ¬ ((ps.length : Int) = 0) := by omega
        have t2lt : (t + 1) % ps.length < ps.length := Nat.mod_lt _ (by omega)
        clear h2 hG2 hR' hRR
        generalize (t + 1) % ps.length = t2 at *
        go_wp2_with fail
        refine ⟨⟨L ++ [(t : Int)], R', t2, g', by rw [e7], t2lt, Lib.hid (by simpa using HR6.out), HB6, HG', Lib.hid (by rw [HL.out, HRR.out]; simp)⟩, ?_⟩
        rw [HLEN.out, HLEN2.out]; have := HTL.out; omega
    · have hG2 := HGG.out
      rw [h1] at hG2
      simp only [if_true] at hG2
      obtain ⟨R', hR', hRR⟩ : ∃ R', rollF ps mm g' ((t + ps.length - 1) % ps.length) = some R' ∧ R = (t : Int) :: R' := by
        cases h3 : rollF ps mm g' ((t + ps.length - 1) % ps.length) with
        | none => rw [h3] at hG2; cases hG2
        | some r => rw [h3] at hG2; cases hG2; exact ⟨r, rfl, rfl⟩
      have HG' := Lib.hid hR'
      have HRR := Lib.hid hRR
      have e1 : IntKind.i64.wrap ((t : Int) + (ps.length : Int)) = ((t + ps.length : Nat) : Int) := by rw [i64_of _ (by omega) (by omega)]; omega
      have e2 : IntKind.i64.wrap (((t + ps.length : Nat) : Int) - 1) = ((t + ps.length - 1 : Nat) : Int) := by rw [i64_of _ (by omega) (by omega)]; omega
      have e3 : (((t + ps.length - 1 : Nat) : Int)).tmod (ps.length : Int) = (((t + ps.length - 1) % ps.length : Nat) : Int) := by rw [← Int.ofNat_tmod]
      have e11 : IntKind.i64.wrap ((t : Int) + (ps.length : Int) - 1) = ((t + ps.length - 1 : Nat) : Int) := by rw [i64_of _ (by omega) (by omega)]; omega
      have e8 : ((t : Int) + (ps.length : Int) - 1) % (ps.length : Int) = (((t + ps.length - 1) % ps.length : Nat) : Int) := by
        rw [show (t : Int) + (ps.length : Int) - 1 = ((t + ps.length - 1 : Nat) : Int) by omega]; rfl
      have e9 : (((t + ps.length - 1 : Nat) : Int)) % (ps.length : Int) = (((t + ps.length - 1) % ps.length : Nat) : Int) := rfl
      have e6 : ¬ ((ps.length : Int) = 0) := by omega
      have t2lt : (t + ps.length - 1) % ps.length < ps.length := Nat.mod_lt _ (by omega)
      clear h1 hG2 hR' hRR y0 y1
      generalize (t + ps.length - 1) % ps.length = t2 at *
      go_wp2_with fail
      refine ⟨⟨L ++ [(t : Int)], R', t2, g', rfl, t2lt, Lib.hid (by simpa using HR5.out), HB5, HG', Lib.hid (by rw [HL.out, HRR.out]; simp)⟩, ?_⟩
      rw [HLEN.out, HLEN2.out]; have := HTL.out; omega
end Go.Proofs.Ytlehddifcjklgaa
namespace Go.Proofs.Ytlehddifcjklgaa
open Go.RowKit Go.Shelf
attribute [local go_sem] Oper.semAt_some
theorem height_bd {ps : List Pt} {X Y D : Int} {s : Nat} (ha : areP ps = true) (hs : s < ps.length) (hX : Bd 400000 X) (hY : Bd 400000 Y) (hD : Bd 30000 D) :
    Bd 10000000000000000 (height ps (X, Y, D) s).1 ∧ Bd 3200 (height ps (X, Y, D) s).2 := by
  obtain ⟨hax, hay⟩ := alongS_bd ha hs
  obtain ⟨hcx, hcy⟩ := ptAt_bd ha hs
  obtain ⟨hix, hiy⟩ := inw_bd hX hY hD hcx hcy
  have j1 : Bd 100000000 (heightH ps (X, Y, D) s) := ((hax.mul hiy).add (hay.neg.mul hix)).mono (by omega)
  exact frac_bd ((j1.mul j1).mono (by omega)) (((hax.mul hax).add (hay.mul hay)).mono (by omega))
theorem frac_den {n d : Int} (h : 0 < d) : 0 < (frac n d).2 := tdiv_pos h (gcdI_pos h) (gcdI_dvd_right _ _)
theorem height_den {ps : List Pt} {m : Int × Int × Int} {s : Nat} (_ha : areP ps = true) (_hs : s < ps.length) (hne : 0 < dt (alongS ps s) (alongS ps s)) : 0 < (height ps m s).2 := frac_den hne
/-- each operation waits for earlier ones alone, of the edges that bind -/
def waitsC (l : List Oper) : Bool := (List.range l.length).all fun i => ((l[i]?).map fun o => o.after.all fun e => !Region.binds .any e || decide (e.on < i)).getD true
section
variable {P : Program} {Q : Exit → Act → World → Prop}
/-- a region whose order is open, by an invariant over what has come up -/
theorem wp_region_inv2 {id : Nat} {a : Act} {w : World} {l : List Oper} (hm : P.follows .mixedOrders = true) (hd : waitsC l = true) (I : List Bool → Act → World → Prop) (h0 : I (List.replicate l.length false) a w.drew)
    (hstep : ∀ (i : Nat) (o : Oper) (bs : List Bool) (a : Act) (w : World), l[i]? = some o → I bs a w → bs.length = l.length → bs[i]? = some false → (∀ e ∈ o.after, Region.binds .any e = true → bs.getD e.on false = true) →
      wpOp P l.toArray Q i (fun a' w' => I (bs.set i true) a' w') a w)
    (hend : ∀ a w, I (List.replicate l.length true) a w → Q .normal a w) : (Code.region id l.toArray true).wp P Q a w := by
  refine wp_region_any hm ?_
  have key : ∀ (fuel : Nat) (bs : List Bool) (a : Act) (w : World), bs.length = l.length → (bs.filter (! ·)).length ≤ fuel → I bs a w → wpAny P .any l.toArray Q fuel bs.toArray a w := by
    intro fuel
    induction fuel with
    | zero =>
      intro bs a w hl hf hI
      have hall : bs = List.replicate l.length true := by
        rw [List.eq_replicate_iff]
        refine ⟨hl, fun b hb => ?_⟩
        cases b with
        | true => rfl
        | false =>
          have : false ∈ bs.filter (! ·) := List.mem_filter.2 ⟨hb, rfl⟩
          have := List.length_pos_of_mem this; omega
      subst hall
      refine ⟨?_, hend a w hI⟩
      cases hr : Region.ready .any l.toArray (List.replicate l.length true).toArray with
      | nil => rfl
      | cons j js =>
        have hj : j ∈ Region.ready .any l.toArray (List.replicate l.length true).toArray := by rw [hr]; exact List.mem_cons_self
        obtain ⟨h1, o, h2, _⟩ := mem_ready.1 hj
        have hlt : j < l.length := by have := (List.getElem?_eq_some_iff.1 (by simpa using h2 : l[j]? = some o)).1; exact this
        simp [Array.getD, hlt] at h1
    | succ fuel ih =>
      intro bs a w hl hf hI
      have hset : ∀ (i : Nat), (bs.toArray.setIfInBounds i true) = (bs.set i true).toArray := fun i => by simp
      by_cases hall : bs = List.replicate l.length true
      · subst hall
        refine ⟨fun _ => hend a w hI, fun j hj => ?_⟩
        obtain ⟨h1, o, h2, _⟩ := mem_ready.1 hj
        have hlt : j < l.length := by have := (List.getElem?_eq_some_iff.1 (by simpa using h2 : l[j]? = some o)).1; exact this
        simp [Array.getD, hlt] at h1
      · refine ⟨fun hr => ?_, fun j hj => ?_⟩
        · exfalso
          have hex : ∃ b ∈ bs, (!b) = true := by
            false_or_by_contra
            rename_i hno
            refine hall (List.eq_replicate_iff.2 ⟨hl, fun b hb => ?_⟩)
            cases b with
            | true => rfl
            | false => exact absurd ⟨false, hb, rfl⟩ hno
          have hlt : bs.findIdx (! ·) < bs.length := List.findIdx_lt_length.2 hex
          have hf0 : bs[bs.findIdx (! ·)] = false := by have := List.findIdx_getElem (w := hlt); simpa using this
          have hlt2 : bs.findIdx (! ·) < l.length := by omega
          have hmem : bs.findIdx (! ·) ∈ Region.ready .any l.toArray bs.toArray := by
            refine mem_ready.2 ⟨by simp [Array.getD, hlt, hf0], l[bs.findIdx (! ·)], by simp [hlt2], fun e he hbd => ?_⟩
            unfold waitsC at hd
            rw [List.all_eq_true] at hd
            have h1 := hd _ (List.mem_range.2 hlt2)
            rw [List.getElem?_eq_getElem hlt2] at h1
            simp only [Option.map_some, Option.getD_some] at h1
            have h2 := (Array.all_eq_true'.1 h1) e he
            rw [hbd] at h2
            have h3 : e.on < bs.findIdx (! ·) := by simpa using h2
            have h4 : e.on < bs.length := by omega
            have h5 := List.not_of_lt_findIdx h3
            simp [Array.getD, h4]
            simpa using h5
          rw [hr] at hmem; cases hmem
        · obtain ⟨h1, o, h2, h3⟩ := mem_ready.1 hj
          have h2' : l[j]? = some o := by simpa using h2
          have hlt : j < l.length := (List.getElem?_eq_some_iff.1 h2').1
          have hb : bs[j]? = some false := by
            rw [List.getElem?_eq_getElem (by omega)]
            simp [Array.getD, show j < bs.length by omega] at h1
            rw [h1]
          refine wpOp_mono (fun a' w' h => ?_) (hstep j o bs a w h2' hI hl hb (fun e he hb => by have := h3 e he hb; rw [List.getD_eq_getElem?_getD]; simp only [Array.getD, List.size_toArray] at this; split at this <;> simp_all))
          rw [hset]
          have := filter_set bs j hb
          exact ih _ _ _ (by simpa using hl) (by omega) h
  have := key l.length (List.replicate l.length false) a w.drew (by simp) (by simp) h0
  simpa using this
/-- the same, with the slots that the region writes told apart -/
theorem wp_region_slots2 {id : Nat} {a : Act} {w : World} {l : List Oper} (hm : P.follows .mixedOrders = true) (hd : waitsC l = true) (slots : List Nat) (J : List Bool → List Value → World → Prop)
    (h0 : ∃ vs, a = putAll a slots vs ∧ J (List.replicate l.length false) vs w.drew)
    (hstep : ∀ (i : Nat) (o : Oper) (bs : List Bool) (vs : List Value) (w : World) (K : Act → World → Prop), l[i]? = some o → J bs vs w → bs.length = l.length → bs[i]? = some false → (∀ e ∈ o.after, Region.binds .any e = true → bs.getD e.on false = true) →
      (∀ vs' w', J (bs.set i true) vs' w' → K (putAll a slots vs') w') → wpOp P l.toArray Q i K (putAll a slots vs) w)
    (hend : ∀ vs w, J (List.replicate l.length true) vs w → Q .normal (putAll a slots vs) w) : (Code.region id l.toArray true).wp P Q a w := by
  refine wp_region_inv2 hm hd (fun bs a' w' => ∃ vs, a' = putAll a slots vs ∧ J bs vs w') h0 ?_ ?_
  · rintro i o bs a' w' ho ⟨vs, rfl, hJ⟩ hl hb hw
    exact hstep i o bs vs w' _ ho hJ hl hb hw (fun vs' w'' h => ⟨vs', rfl, h⟩)
  · rintro a' w' ⟨vs, rfl, hJ⟩
    exact hend vs w' hJ
end
structure LeanJ (W0 : World) (BV : Value) (s : Nat) (B6 : Nat) (hn hd D : Int) (b0 b1 b2 b3 b4 b5 b6 b7 b8 : Bool) (x0 x1 x2 x3 x4 x5 x6 x7 : Value) (W : World) : Prop where
  below : Below W0.heap.size W0 W
  s0 : b0 = true → x0 = BV
  s1 : b1 = true → x1 = .int .i64 (s : Int)
  s2 : b2 = true → x2 = .agg #[.int .i64 hn, .int .i64 hd]
  s3 : b3 = true → x3 = .pointer (some ⟨B6, 1, none⟩)
  s4 : b4 = true → x4 = .pointer (some ⟨B6, 3, none⟩)
  s5 : b5 = true → x5 = .int .i64 D
  s6 : b6 = true → ∃ p, x6 = .pointer (some ⟨p, 0, none⟩) ∧ W0.heap.size ≤ p ∧ Row W p 88 [.int .i64 (if b7 then hn else 0), .int .i64 (if b7 then hd else 0)]
  s8 : b8 = true → x7 = .int .i64 D
  o : b7 = true → b6 = true
def leanJ (W0 : World) (BV : Value) (s B6 : Nat) (hn hd D : Int) (bs : List Bool) (vs : List Value) (W : World) : Prop :=
  ∃ b0 b1 b2 b3 b4 b5 b6 b7 b8 x0 x1 x2 x3 x4 x5 x6 x7, bs = [b0, b1, b2, b3, b4, b5, b6, b7, b8] ∧ vs = [x0, x1, x2, x3, x4, x5, x6, x7] ∧ LeanJ W0 BV s B6 hn hd D b0 b1 b2 b3 b4 b5 b6 b7 b8 x0 x1 x2 x3 x4 x5 x6 x7 W
theorem leanJ_start (W0 : World) (BV : Value) (s B6 : Nat) (hn hd D : Int) (x0 x1 x2 x3 x4 x5 x6 x7 : Value) (W : World) (h : Below W0.heap.size W0 W) :
    leanJ W0 BV s B6 hn hd D (List.replicate 9 false) [x0, x1, x2, x3, x4, x5, x6, x7] W :=
  ⟨false, false, false, false, false, false, false, false, false, x0, x1, x2, x3, x4, x5, x6, x7, rfl, rfl, { below := h, s0 := (fun h => by cases h), s1 := (fun h => by cases h), s2 := (fun h => by cases h), s3 := (fun h => by cases h), s4 := (fun h => by cases h), s5 := (fun h => by cases h), s6 := (fun h => by cases h), s8 := (fun h => by cases h), o := (fun h => by cases h) }⟩
section
variable {W0 : World} {BV : Value} {s B6 : Nat} {hn hd D : Int} {b0 b1 b2 b3 b4 b5 b6 b7 b8 : Bool} {x0 x1 x2 x3 x4 x5 x6 x7 : Value} {W : World}
theorem leanJ_mk (h : LeanJ W0 BV s B6 hn hd D b0 b1 b2 b3 b4 b5 b6 b7 b8 x0 x1 x2 x3 x4 x5 x6 x7 W) : leanJ W0 BV s B6 hn hd D [b0, b1, b2, b3, b4, b5, b6, b7, b8] [x0, x1, x2, x3, x4, x5, x6, x7] W :=
  ⟨_, _, _, _, _, _, _, _, _, _, _, _, _, _, _, _, _, rfl, rfl, h⟩
theorem LeanJ.grow {W' : World} (J : LeanJ W0 BV s B6 hn hd D b0 b1 b2 b3 b4 b5 b6 b7 b8 x0 x1 x2 x3 x4 x5 x6 x7 W) (hb : Below W.heap.size W W') : LeanJ W0 BV s B6 hn hd D b0 b1 b2 b3 b4 b5 b6 b7 b8 x0 x1 x2 x3 x4 x5 x6 x7 W' :=
  { J with
    below := Below.andThen J.below hb (Nat.le_refl _)
    s6 := fun h => let ⟨p, h1, h2, h3⟩ := J.s6 h; ⟨p, h1, h2, h3.below hb h3.lt⟩ }
end
set_option maxRecDepth 100000 in
set_option maxHeartbeats 2000000 in
theorem Lean_any (ps : List Pt) (b c s : Nat) (w : World) (hp : PtsAt w b 0 ps) (hck : chk ps = true) (hD0 : 0 < area ps) (hs : s < ps.length) :
    Calls Try.prog 30 #[.slice (some ⟨b, 0, none⟩) ps.length c, .int .i64 (s : Int)] w fun e w' => e = .returned (.tuple #[.agg #[.int .i64 (leanF ps (mid ps) s).1, .int .i64 (leanF ps (mid ps) s).2], .int .i64 0]) ∧ Below w.heap.size w w' := by
  have ha : areP ps = true := by unfold chk at hck; exact (Bool.and_eq_true _ _ ▸ hck : _ ∧ _).1
  obtain ⟨h3, h12⟩ := areP_len ha
  have HM := Lib.hid (fun W g s (hg : g < W.heap.size) hgc hs (h : PtsAt W b 0 ps) => bodyOf_one ps b c W g s hg hgc hs h hck hD0)
  obtain ⟨m1, m2, m3, m4⟩ := mid_facts ha hD0
  have HH := Lib.hid (fun W (h : PtsAt W b 0 ps) => height_any ps b c (mid ps).1 (mid ps).2.1 (mid ps).2.2 s W h ha hs m1 m2 m3 m4 (along_pos hck hs))
  have hb1 := height_bd ha hs m1 m2 m3
  have hb2 := height_den ha hs (along_pos hck hs) (m := mid ps)
  have em : ((mid ps).1, (mid ps).2.1, (mid ps).2.2) = mid ps := rfl
  rw [em] at HH hb1
  have fin : leanF ps (mid ps) s = frac (height ps (mid ps) s).1 ((height ps (mid ps) s).2 * (mid ps).2.2 * (mid ps).2.2) := rfl
  obtain ⟨hn, hd, hh⟩ : ∃ hn hd, height ps (mid ps) s = (hn, hd) := ⟨_, _, rfl⟩
  rw [hh] at HH hb1 hb2 fin
  dsimp only at HH hb1 hb2 fin
  have j1 := (hb1.2.mul m3)
  have j2 := j1.mul m3
  have j3 : 0 < hd * (mid ps).2.2 * (mid ps).2.2 := Int.mul_pos (Int.mul_pos hb2 m4) m4
  obtain ⟨X, hX⟩ : ∃ X, (mid ps).1 = X := ⟨_, rfl⟩
  obtain ⟨Y, hY⟩ : ∃ Y, (mid ps).2.1 = Y := ⟨_, rfl⟩
  obtain ⟨D, hD⟩ : ∃ D, (mid ps).2.2 = D := ⟨_, rfl⟩
  rw [hX, hY, hD] at HM HH
  rw [hD] at j1 j2 j3 fin
  have hFR := fractionOf64_any hn (hd * D * D)
  obtain ⟨fn, fd, hfr⟩ : ∃ fn fd, frac hn (hd * D * D) = (fn, fd) := ⟨_, _, rfl⟩
  rw [hfr] at hFR fin
  dsimp only at hFR
  rw [fin]
  dsimp only
  have e1 : IntKind.i64.wrap (hd * D) = hd * D := i64_bd j1 (by omega)
  have e2 : IntKind.i64.wrap (hd * D * D) = hd * D * D := i64_bd j2 (by omega)
  have HFR := Lib.hid (fun W => hFR W (hb1.1.mono (by omega)) (j2.mono (by omega)) j3)
  have HP := Lib.hid hp
  have HS := Lib.hid hs
  clear hp hck hD0 m1 m2 m3 m4 hX hY hD em fin hh hfr hFR hb1 hb2 j1 j2 j3 ha hs
  go_enter Try.func30, Try.ntmps30
  go_wp2_with fail
  obtain ⟨W0, hW0⟩ : ∃ W0, W0 = w.alloc (.cells #[.int .i64 0, .int .i64 0] 39) := ⟨_, rfl⟩
  have B0 := Lib.hid (show Below w.heap.size w W0 by rw [hW0]; exact (Below.refl _ _).alloc (Nat.le_refl _) _)
  have l0 : w.heap.size < W0.heap.size := by rw [hW0]; simp
  have r0 := Lib.hid (show Row W0 w.heap.size 39 [.int .i64 0, .int .i64 0] by rw [hW0]; exact Row.new _ _ _)
  have sz := Lib.hid (show W0.heap.size = w.heap.size + 1 by rw [hW0]; simp)
  rw [← hW0]
  clear hW0
  refine (HM.out _ (w.heap.size + 1) s (by simp [sz.out]) (by rw [← sz.out]; simp [cell_al]) HS.out (HP.out.grow (Below.al B0.out (Nat.le_refl _) _))).mono ?_
  rintro e w1 ⟨rfl, hb1⟩
  have hb1' : Below W0.heap.size W0 w1 := ((Below.refl _ _).alloc (Nat.le_refl _) _).trans (hb1.mono (by simp))
  obtain ⟨V, hV⟩ : ∃ V, V = w1.alloc (.cells #[.slice (some ⟨b, 0, none⟩) ps.length c, .int .i64 X, .int .i64 Y, .int .i64 D] 81) := ⟨_, rfl⟩
  have BV := Lib.hid (show Below W0.heap.size W0 V by rw [hV]; exact Below.al hb1' (Nat.le_refl _) _)
  have rb := Lib.hid (show Row V w1.heap.size 81 [.slice (some ⟨b, 0, none⟩) ps.length c, .int .i64 X, .int .i64 Y, .int .i64 D] by rw [hV]; exact Row.new _ _ _)
  have l6 : w1.heap.size < V.heap.size := by rw [hV]; simp
  have hBw : Below w.heap.size w V := Below.andThen B0.out BV.out (Nat.le_refl _)
  have HPV := Lib.hid (HP.out.grow hBw)
  have HBW := Lib.hid hBw
  clear hb1 hb1' hBw
  go_wp2_with fail
  rw [← hV]
  clear hV
  refine wp_region_slots2 (by kernel_rfl) (by kernel_rfl) [22, 23, 24, 25, 26, 27, 8, 9] (leanJ V (.agg #[.slice (some ⟨b, 0, none⟩) ps.length c, .int .i64 X, .int .i64 Y, .int .i64 D]) s w1.heap.size hn hd D) ⟨[undef, undef, undef, undef, undef, undef, undef, undef], by simp only [putAll, Act.put, List.setIfInBounds_toArray, List.set_cons_succ, List.set_cons_zero], leanJ_start _ _ _ _ _ _ _ _ _ _ _ _ _ _ _ _ (Below.refl _ _).drew⟩ ?_ ?_
  · rintro i o bs vs W K ho ⟨b0, b1, b2, b3, b4, b5, b6, b7, b8, x0, x1, x2, x3, x4, x5, x6, x7, rfl, rfl, J⟩ _ hb hw hK
    have HK := Lib.hid hK
    have HJ := Lib.hid J
    have HW := Lib.hid hw
    clear hK J hw
    match i with
      | 0 =>
        obtain rfl : _ = o := Option.some.inj ho
        obtain ⟨q0, q1, q2, q3⟩ := body_cells (rb.out.below HJ.out.below l6)
        refine wpOp_of_list rfl ?_
        simp only [putAll, Act.put, List.setIfInBounds_toArray, List.set_cons_succ, List.set_cons_zero]
        clear hb ho
        go_wp2_with fail
        have fin := HK.out [(.agg #[.slice (some ⟨b, 0, none⟩) ps.length c, .int .i64 X, .int .i64 Y, .int .i64 D]), x1, x2, x3, x4, x5, x6, x7] W (leanJ_mk { HJ.out with s0 := fun _ => rfl })
        simp only [putAll, Act.put, List.setIfInBounds_toArray, List.set_cons_succ, List.set_cons_zero] at fin
        exact fin
      | 1 =>
        obtain rfl : _ = o := Option.some.inj ho
        refine wpOp_of_list rfl ?_
        simp only [putAll, Act.put, List.setIfInBounds_toArray, List.set_cons_succ, List.set_cons_zero]
        clear hb ho
        go_wp2_with fail
        have fin := HK.out [x0, .int .i64 (s : Int), x2, x3, x4, x5, x6, x7] W (leanJ_mk { HJ.out with s1 := fun _ => rfl })
        simp only [putAll, Act.put, List.setIfInBounds_toArray, List.set_cons_succ, List.set_cons_zero] at fin
        exact fin
      | 2 =>
        obtain rfl : _ = o := Option.some.inj ho
        obtain rfl := HJ.out.s0 (HW.out ⟨0, .data⟩ (by simp) rfl)
        obtain rfl := HJ.out.s1 (HW.out ⟨1, .data⟩ (by simp) rfl)
        refine wpOp_of_list rfl ?_
        simp only [putAll, Act.put, List.setIfInBounds_toArray, List.set_cons_succ, List.set_cons_zero]
        clear hb ho
        go_wp2_with fail
        refine (HH.out W (HPV.out.grow HJ.out.below)).mono ?_
        rintro e W' ⟨rfl, hb'⟩
        have HG := Lib.hid (HJ.out.grow hb')
        clear hb'
        go_wp2_with fail
        have fin := HK.out [(.agg #[.slice (some ⟨b, 0, none⟩) ps.length c, .int .i64 X, .int .i64 Y, .int .i64 D]), .int .i64 (s : Int), .agg #[.int .i64 hn, .int .i64 hd], x3, x4, x5, x6, x7] W' (leanJ_mk { HG.out with s2 := fun _ => rfl })
        simp only [putAll, Act.put, List.setIfInBounds_toArray, List.set_cons_succ, List.set_cons_zero] at fin
        exact fin
      | 3 =>
        obtain rfl : _ = o := Option.some.inj ho
        refine wpOp_of_list rfl ?_
        simp only [putAll, Act.put, List.setIfInBounds_toArray, List.set_cons_succ, List.set_cons_zero]
        clear hb ho
        go_wp2_with fail
        have fin := HK.out [x0, x1, x2, .pointer (some ⟨w1.heap.size, 1, none⟩), x4, x5, x6, x7] W (leanJ_mk { HJ.out with s3 := fun _ => rfl })
        simp only [putAll, Act.put, List.setIfInBounds_toArray, List.set_cons_succ, List.set_cons_zero] at fin
        exact fin
      | 4 =>
        obtain rfl : _ = o := Option.some.inj ho
        obtain rfl := HJ.out.s3 (HW.out ⟨3, .data⟩ (by simp) rfl)
        refine wpOp_of_list rfl ?_
        simp only [putAll, Act.put, List.setIfInBounds_toArray, List.set_cons_succ, List.set_cons_zero]
        clear hb ho
        go_wp2_with fail
        have fin := HK.out [x0, x1, x2, .pointer (some ⟨w1.heap.size, 1, none⟩), .pointer (some ⟨w1.heap.size, 3, none⟩), x5, x6, x7] W (leanJ_mk { HJ.out with s4 := fun _ => rfl })
        simp only [putAll, Act.put, List.setIfInBounds_toArray, List.set_cons_succ, List.set_cons_zero] at fin
        exact fin
      | 5 =>
        obtain rfl : _ = o := Option.some.inj ho
        obtain rfl := HJ.out.s4 (HW.out ⟨4, .data⟩ (by simp) rfl)
        obtain ⟨q0, q1, q2, q3⟩ := body_cells (rb.out.below HJ.out.below l6)
        refine wpOp_of_list rfl ?_
        simp only [putAll, Act.put, List.setIfInBounds_toArray, List.set_cons_succ, List.set_cons_zero]
        clear hb ho
        go_wp2_with fail
        have fin := HK.out [x0, x1, x2, x3, .pointer (some ⟨w1.heap.size, 3, none⟩), .int .i64 D, x6, x7] W (leanJ_mk { HJ.out with s5 := fun _ => rfl })
        simp only [putAll, Act.put, List.setIfInBounds_toArray, List.set_cons_succ, List.set_cons_zero] at fin
        exact fin
      | 6 =>
        obtain rfl : _ = o := Option.some.inj ho
        have e6 : b6 = false := by simpa using hb
        have e7 : b7 = false := by
          cases h7 : b7 with
          | false => rfl
          | true => have := HJ.out.o h7; rw [e6] at this; cases this
        subst e7
        refine wpOp_of_list rfl ?_
        simp only [putAll, Act.put, List.setIfInBounds_toArray, List.set_cons_succ, List.set_cons_zero]
        clear hb ho
        go_wp2_with fail
        have fin := HK.out [x0, x1, x2, x3, x4, x5, .pointer (some ⟨W.heap.size, 0, none⟩), x7] (W.alloc (.cells #[.int .i64 0, .int .i64 0] 88)) (leanJ_mk { HJ.out.grow ((Below.refl _ _).alloc (Nat.le_refl _) (.cells #[.int .i64 0, .int .i64 0] 88)) with s6 := fun _ => ⟨_, rfl, HJ.out.below.size, Row.new W 88 [.int .i64 0, .int .i64 0]⟩, o := fun h => (by cases h) })
        simp only [putAll, Act.put, List.setIfInBounds_toArray, List.set_cons_succ, List.set_cons_zero] at fin
        exact fin
      | 7 =>
        obtain rfl : _ = o := Option.some.inj ho
        have e7 : b7 = false := by simpa using hb
        subst e7
        have e6 : b6 = true := HW.out ⟨6, .data⟩ (by simp) rfl
        obtain rfl := HJ.out.s2 (HW.out ⟨2, .data⟩ (by simp) rfl)
        obtain ⟨p, rfl, hp1, hp2⟩ := HJ.out.s6 e6
        have q0 := hp2.cell 0
        have q1 := hp2.cell 1
        have g0 := frozen_of_row _ p 0 _ _ hp2
        have g1 := frozen_of_row _ p 1 _ _ hp2
        simp only [List.getElem?_cons_zero, List.getElem?_cons_succ, Bool.false_eq_true, if_false] at q0 q1
        have HP2 := Lib.hid hp2
        have HP1 := Lib.hid hp1
        refine wpOp_of_list rfl ?_
        simp only [putAll, Act.put, List.setIfInBounds_toArray, List.set_cons_succ, List.set_cons_zero]
        clear hb ho hp2 hp1
        go_wp2_with fail
        have hrow : Row ((W.setCell ⟨p, 0, none⟩ (.int .i64 hn)).setCell ⟨p, 1, none⟩ (.int .i64 hd)) p 88 [.int .i64 hn, .int .i64 hd] := by
          simpa using (HP2.out.set 0 (.int .i64 hn)).set 1 (.int .i64 hd)
        have hbel : Below V.heap.size V ((W.setCell ⟨p, 0, none⟩ (.int .i64 hn)).setCell ⟨p, 1, none⟩ (.int .i64 hd)) :=
          (HJ.out.below.setCell (p := ⟨p, 0, none⟩) HP1.out _).setCell (p := ⟨p, 1, none⟩) HP1.out _
        have fin := HK.out [x0, x1, .agg #[.int .i64 hn, .int .i64 hd], x3, x4, x5, .pointer (some ⟨p, 0, none⟩), x7] ((W.setCell ⟨p, 0, none⟩ (.int .i64 hn)).setCell ⟨p, 1, none⟩ (.int .i64 hd)) (leanJ_mk { HJ.out with below := hbel, s6 := fun _ => ⟨p, rfl, HP1.out, by simpa using hrow⟩, o := fun _ => e6 })
        simp only [putAll, Act.put, List.setIfInBounds_toArray, List.set_cons_succ, List.set_cons_zero] at fin
        exact fin
      | 8 =>
        obtain rfl : _ = o := Option.some.inj ho
        obtain rfl := HJ.out.s5 (HW.out ⟨5, .data⟩ (by simp) rfl)
        refine wpOp_of_list rfl ?_
        simp only [putAll, Act.put, List.setIfInBounds_toArray, List.set_cons_succ, List.set_cons_zero]
        clear hb ho
        go_wp2_with fail
        have fin := HK.out [x0, x1, x2, x3, x4, .int .i64 D, x6, .int .i64 D] W (leanJ_mk { HJ.out with s8 := fun _ => rfl })
        simp only [putAll, Act.put, List.setIfInBounds_toArray, List.set_cons_succ, List.set_cons_zero] at fin
        exact fin
      | i + 9 => simp at hb
  · rintro vs W ⟨b0, b1, b2, b3, b4, b5, b6, b7, b8, x0, x1, x2, x3, x4, x5, x6, x7, hbs, rfl, J⟩
    simp only [List.length_cons, List.length_nil, List.replicate_succ, List.replicate_zero, List.cons.injEq, and_true] at hbs
    obtain ⟨rfl, rfl, rfl, rfl, rfl, rfl, rfl, rfl, rfl⟩ := hbs
    obtain ⟨p, rfl, hp1, hp2⟩ := J.s6 rfl
    obtain rfl := J.s8 rfl
    obtain rfl := J.s2 rfl
    have TT := Lib.hid (J.below)
    have q0 := hp2.cell 0
    have q1 := hp2.cell 1
    simp only [List.getElem?_cons_zero, List.getElem?_cons_succ, if_true] at q0 q1
    have rr := (r0.out.below (Below.andThen BV.out TT.out (Nat.le_refl _)) l0)
    have lW : w.heap.size < W.heap.size := rr.lt
    clear J hp1
    simp only [putAll, Act.put, List.setIfInBounds_toArray, List.set_cons_succ, List.set_cons_zero]
    have lp := hp2.lt
    clear hp2
    go_wp2_with fail
    refine (HFR.out W).mono ?_
    rintro e w5 ⟨rfl, hb5⟩
    obtain ⟨Z, hZ⟩ : ∃ Z, Z = w5.alloc (.cells #[.int .i64 fn, .int .i64 fd] 88) := ⟨_, rfl⟩
    have rz := (rr.below hb5 lW).below (B := w5.heap.size) (w' := Z) (by rw [hZ]; exact (Below.refl _ _).alloc (Nat.le_refl _) _) (Nat.lt_of_lt_of_le lW hb5.size)
    have c0 := rz.cell 0
    have c1 := rz.cell 1
    have g0 := frozen_of_row _ w.heap.size 0 _ _ rz
    have g1 := frozen_of_row _ w.heap.size 1 _ _ rz
    simp only [List.getElem?_cons_zero, List.getElem?_cons_succ] at c0 c1
    have T5 := Lib.hid (show Below w.heap.size w Z by rw [hZ]; exact Below.al (Below.andThen (Below.andThen HBW.out TT.out (Nat.le_refl _)) hb5 (Nat.le_refl _)) (Nat.le_refl _) _)
    rw [hZ] at c0 c1 g0 g1
    clear hb5 q0 q1
    go_wp2_with fail
    rw [← hZ] at c0 c1 ⊢
    obtain ⟨q0, q1⟩ := two_set (x := .int .i64 fn) (y := .int .i64 fd) c0 c1
    refine bodyPost_ret (v := .tuple #[.agg #[.int .i64 fn, .int .i64 fd], .int .i64 0]) (by simp [results, Try.results30, go_sem, q0, q1]) rfl ⟨rfl, ?_⟩
    exact (T5.out.setCell (p := ⟨w.heap.size, 0, none⟩) (Nat.le_refl _) _).setCell (p := ⟨w.heap.size, 1, none⟩) (Nat.le_refl _) _
end Go.Proofs.Ytlehddifcjklgaa
namespace Go.Proofs.Ytlehddifcjklgaa
open Go.RowKit Go.Shelf
attribute [local go_sem] Oper.semAt_some
/-- 1 + 1/2 + .. + 1/k -/
def harF : Nat → Int × Int
  | 0 => (0, 1)
  | k + 1 => frac ((harF k).1 * (frac 1 ((k : Int) + 1)).2 + (frac 1 ((k : Int) + 1)).1 * (harF k).2) ((harF k).2 * (frac 1 ((k : Int) + 1)).2)
def bdB (B x : Int) : Bool := decide (-B ≤ x) && decide (x ≤ B)
theorem bdB_spec {B x : Int} (h : bdB B x = true) : Bd B x := by
  unfold bdB at h; simp at h; exact h
def harOk (k : Nat) : Bool :=
  bdB 1000000000000000000 ((harF k).1 * (frac 1 ((k : Int) + 1)).2) && (bdB 1000000000000000000 ((frac 1 ((k : Int) + 1)).1 * (harF k).2) &&
  (bdB 4000000000000000000 ((harF k).2 * (frac 1 ((k : Int) + 1)).2) && decide (0 < (harF k).2 * (frac 1 ((k : Int) + 1)).2)))
theorem harOk_all : (List.range 30).all harOk = true := by kernel_rfl
theorem har_facts {k : Nat} (h : k < 30) : Bd 1000000000000000000 ((harF k).1 * (frac 1 ((k : Int) + 1)).2) ∧ Bd 1000000000000000000 ((frac 1 ((k : Int) + 1)).1 * (harF k).2) ∧
    Bd 4000000000000000000 ((harF k).2 * (frac 1 ((k : Int) + 1)).2) ∧ 0 < (harF k).2 * (frac 1 ((k : Int) + 1)).2 := by
  have := List.all_eq_true.1 harOk_all k (List.mem_range.2 h)
  unfold harOk at this
  simp only [Bool.and_eq_true, decide_eq_true_eq] at this
  exact ⟨bdB_spec this.1, bdB_spec this.2.1, bdB_spec this.2.2.1, this.2.2.2⟩
set_option maxHeartbeats 800000 in
theorem Harmonic_bad (n : Int) (w : World) (h : n < 1 ∨ 30 < n) :
    Calls Try.prog 55 #[.int .i64 n] w fun e w' => e = .returned (.tuple #[.agg #[.int .i64 0, .int .i64 0], .int .i64 1]) ∧ Below w.heap.size w w' := by
  rcases h with h | h
  · have d1 : decide (n < 1) = true := decide_eq_true h
    go_enter Try.func55, Try.ntmps55
    go_wp2_with fail
    exact bodyPost_ret (v := .tuple #[.agg #[.int .i64 0, .int .i64 0], .int .i64 1]) (by simp [results, Try.results55, go_sem]) rfl ⟨rfl, (Below.refl _ _).alloc (Nat.le_refl _) _⟩
  · have d1 : decide (n < 1) = false := decide_eq_false (by omega)
    have d2 : decide (30 < n) = true := decide_eq_true h
    go_enter Try.func55, Try.ntmps55
    go_wp2_with fail
    exact bodyPost_ret (v := .tuple #[.agg #[.int .i64 0, .int .i64 0], .int .i64 1]) (by simp [results, Try.results55, go_sem]) rfl ⟨rfl, (Below.refl _ _).alloc (Nat.le_refl _) _⟩
theorem two_cells {W : World} {B : Nat} {t : TypeId} {v0 v1 : Value} (h : Row W B t [v0, v1]) : W.cell? ⟨B, 0, none⟩ = some v0 ∧ W.cell? ⟨B, 1, none⟩ = some v1 ∧ W.frozen? ⟨B, 0, none⟩ = false ∧ W.frozen? ⟨B, 1, none⟩ = false :=
  ⟨h.cell 0, h.cell 1, frozen_of_row _ B 0 _ _ h, frozen_of_row _ B 1 _ _ h⟩
set_option maxRecDepth 100000 in
set_option maxHeartbeats 1000000 in
theorem Harmonic_any (n : Nat) (w : World) (h1 : 1 ≤ n) (h30 : n ≤ 30) :
    Calls Try.prog 55 #[.int .i64 (n : Int)] w fun e w' => e = .returned (.tuple #[.agg #[.int .i64 (harF n).1, .int .i64 (harF n).2], .int .i64 0]) ∧ Below w.heap.size w w' := by
  have d1 : decide ((n : Int) < 1) = false := decide_eq_false (by omega)
  have d2 : decide (30 < (n : Int)) = false := decide_eq_false (by omega)
  go_enter Try.func55, Try.ntmps55
  go_wp2_with fail
  refine (whole_any 0 _).mono ?_
  rintro e w1 ⟨rfl, hb1⟩
  obtain ⟨W1, hW1⟩ : ∃ W1, W1 = w1.alloc (.cells #[.int .i64 0, .int .i64 1] 88) := ⟨_, rfl⟩
  have B1 := Lib.hid (show Below w.heap.size w W1 by rw [hW1]; exact Below.al (((Below.refl _ _).alloc (Nat.le_refl _) _).trans (hb1.mono (by simp))) (Nat.le_refl _) _)
  have hsz : w.heap.size < w1.heap.size := by have := hb1.size; simp at this; omega
  have r0 := Lib.hid (show Row W1 w.heap.size 39 [.int .i64 0, .int .i64 0] by
    rw [hW1]
    exact ((Row.new w 39 [.int .i64 0, .int .i64 0]).below hb1 (by simp)).below ((Below.refl _ _).alloc (Nat.le_refl _) _) hsz)
  have r1 := Lib.hid (show Row W1 w1.heap.size 88 [.int .i64 0, .int .i64 1] by rw [hW1]; exact Row.new _ _ _)
  have hne := Lib.hid (show w.heap.size ≠ w1.heap.size by omega)
  have hle := Lib.hid (show w.heap.size ≤ w1.heap.size by omega)
  clear hb1 hsz
  go_wp2_with fail
  rw [← hW1]
  clear hW1
  go_wp2_with fail
  go_loopw [15] (fun i wr => ∃ k : Nat, k ≤ n ∧ i = .int .i64 (k : Int) ∧ Hid (Row wr w1.heap.size 88 [.int .i64 (harF k).1, .int .i64 (harF k).2]) ∧ Hid (Row wr w.heap.size 39 [.int .i64 0, .int .i64 0]) ∧ Hid (Below w.heap.size w wr)) (fun i _ => n - (intOf i).toNat)
  case atStart => exact ⟨0, by omega, rfl, r1, r0, B1⟩
  case round =>
    obtain ⟨k, hk, rfl, HA, HR, HB⟩ := hrel
    by_cases hlt : k < n
    · have hd : decide ((k : Int) < (n : Int)) = true := decide_eq_true (by omega)
      obtain ⟨f1, f2, f3, f4⟩ := har_facts (show k < 30 by omega)
      have hfr : harF (k + 1) = frac ((harF k).1 * (frac 1 ((k : Int) + 1)).2 + (frac 1 ((k : Int) + 1)).1 * (harF k).2) ((harF k).2 * (frac 1 ((k : Int) + 1)).2) := rfl
      have HF1 := Lib.hid (fun W => fractionOf_any 1 ((k : Int) + 1) W (by unfold Bd; omega) (by unfold Bd; omega) (by omega))
      generalize frac 1 ((k : Int) + 1) = g at *
      obtain ⟨gn, gd⟩ := g
      generalize harF k = hk0 at *
      obtain ⟨a, b⟩ := hk0
      dsimp only at *
      have HF2 := Lib.hid (fun W => plus_any a b gn gd W f1 f2 f3 f4)
      rw [← hfr] at HF2
      obtain ⟨c, d, hcd⟩ : ∃ c d, harF (k + 1) = (c, d) := ⟨_, _, rfl⟩
      rw [hcd] at HF2
      dsimp only at HF2
      have HCD := Lib.hid hcd
      obtain ⟨x0, x1, _, _⟩ := two_cells HA.out
      have y0 := Kl.cell HA.out.lt x0
      have y1 := Kl.cell HA.out.lt x1
      clear f1 f2 f3 f4 hfr hcd
      go_wp2_with fail
      refine wp_region_cut (C := fun w' => ∃ n : Kl wr, w' = n.W) 5 (by kernel_rfl) (by kernel_rfl) ⟨⟨wr.drew, (Below.refl _ _).drew⟩, rfl⟩ ?_
      simp only [List.take_succ_cons, List.take_zero, List.drop_succ_cons, List.drop_zero]
      repeat (go_big_quiet_step (first | (go_at_call 96; exact Kl.call (HF1.out _)) | (go_at_call 95; exact Kl.call (HF2.out _))))
      refine wpQuiet_nil ?_
      rintro _ ⟨wq, rfl⟩
      have HA2 := HA.out.below wq.h HA.out.lt
      have HR2 := HR.out.below wq.h HR.out.lt
      have HB2 := Below.andThen HB.out wq.h (Nat.le_refl _)
      obtain ⟨z0, z1, z2, z3⟩ := two_cells HA2
      have A2 := Lib.hid HA2
      have R2 := Lib.hid HR2
      have BB2 := Lib.hid HB2
      clear x0 x1 y0 y1 HA2 HR2 HB2
      generalize wq.W = w5 at *
      go_wp2_with fail
      go_roundw
      case rel =>
        refine ⟨k + 1, by omega, rfl, Lib.hid ?_, Lib.hid ?_, Lib.hid ?_⟩
        · rw [HCD.out]
          simpa using (A2.out.set 0 (.int .i64 c)).set 1 (.int .i64 d)
        · have := hne.out
          exact (heap_setCell_other _ _ _ _ (by simpa using this)).trans ((heap_setCell_other _ _ _ _ (by simpa using this)).trans R2.out)
        · exact (BB2.out.setCell (p := ⟨w1.heap.size, 0, none⟩) hle.out _).setCell (p := ⟨w1.heap.size, 1, none⟩) hle.out _
      case measure => simp [intOf]; omega
    · have hd : decide ((k : Int) < (n : Int)) = false := decide_eq_false (by omega)
      obtain rfl : k = n := by omega
      obtain ⟨a, b, hab⟩ : ∃ a b, harF k = (a, b) := ⟨_, _, rfl⟩
      rw [hab] at HA
      have HAB := Lib.hid hab
      clear hab
      dsimp only at HA
      obtain ⟨x0, x1, _, _⟩ := two_cells HA.out
      obtain ⟨z0, z1, z2, z3⟩ := two_cells HR.out
      go_wp2_with fail
      obtain ⟨q0, q1⟩ := two_set (x := .int .i64 a) (y := .int .i64 b) z0 z1
      rw [HAB.out]
      refine bodyPost_ret (v := .tuple #[.agg #[.int .i64 a, .int .i64 b], .int .i64 0]) (by simp [results, Try.results55, go_sem, q0, q1]) rfl ⟨rfl, ?_⟩
      exact (HB.out.setCell (p := ⟨w.heap.size, 0, none⟩) (Nat.le_refl _) _).setCell (p := ⟨w.heap.size, 1, none⟩) (Nat.le_refl _) _
end Go.Proofs.Ytlehddifcjklgaa
namespace Go.Proofs.Ytlehddifcjklgaa
open Go.RowKit Go.Shelf
attribute [local go_sem] Oper.semAt_some
def plankB (p : Pt) : Bool := decide (-1000 ≤ p.1) && decide (p.1 ≤ 1000) && (decide (1 ≤ p.2) && decide (p.2 ≤ 100))
def twrB (ps : List Pt) : Bool := decide (1 ≤ ps.length) && decide (ps.length ≤ 12) && ps.all plankB
theorem plank_false {p1 p2 : Int} (h : p1 < -1000 ∨ 1000 < p1 ∨ p2 < 1 ∨ 100 < p2) : plankB (p1, p2) = false := by
  unfold plankB
  rcases h with h | h | h | h <;> simp <;> omega
theorem plank_true {p1 p2 : Int} (h1 : -1000 ≤ p1) (h2 : p1 ≤ 1000) (h3 : 1 ≤ p2) (h4 : p2 ≤ 100) : plankB (p1, p2) = true := by
  unfold plankB; simp; omega
theorem twr_len {ps : List Pt} (h : twrB ps = true) : 1 ≤ ps.length ∧ ps.length ≤ 12 := by
  unfold twrB at h; simp at h; omega
theorem twr_bd {ps : List Pt} (h : twrB ps = true) {i : Nat} (hi : i < ps.length) : Bd 1000 ps[i].1 ∧ 1 ≤ ps[i].2 ∧ ps[i].2 ≤ 100 := by
  unfold twrB at h
  simp only [Bool.and_eq_true, List.all_eq_true] at h
  have := h.2 _ (List.getElem_mem hi)
  simp [plankB] at this
  unfold Bd; omega
theorem CheckTower_short (ps : List Pt) (v : Option Addr) (c : Nat) (w : World) (hl : ps.length ≤ 1000000) (h : ps.length < 1 ∨ 12 < ps.length) :
    Calls Try.prog 47 #[.slice v ps.length c] w fun e w' => e = .returned (.int .i64 (if twrB ps then 0 else 31)) ∧ Below w.heap.size w w' := by
  have fin : twrB ps = false := by
    unfold twrB; rcases h with h | h <;> simp <;> omega
  rw [fin]
  clear fin
  rcases h with h | h
  · have d1 : decide ((ps.length : Int) < 1) = true := decide_eq_true (by omega)
    go_enter Try.func47, Try.ntmps47
    go_wp2
    go_ret
    exact ⟨rfl, Below.refl _ _⟩
  · have d1 : decide ((ps.length : Int) < 1) = false := decide_eq_false (by omega)
    have d2 : decide (12 < (ps.length : Int)) = true := decide_eq_true (by omega)
    go_enter Try.func47, Try.ntmps47
    go_wp2
    go_ret
    exact ⟨rfl, Below.refl _ _⟩
set_option maxHeartbeats 1000000 in
theorem CheckTower_mid (ps : List Pt) (b o c : Nat) (w : World) (hp : PtsAt w b o ps) (h1 : 1 ≤ ps.length) (h12 : ps.length ≤ 12) :
    Calls Try.prog 47 #[.slice (some ⟨b, o, none⟩) ps.length c] w fun e w' => e = .returned (.int .i64 (if twrB ps then 0 else 31)) ∧ Below w.heap.size w w' := by
  have d1 : decide ((ps.length : Int) < 1) = false := decide_eq_false (by omega)
  have d2 : decide (12 < (ps.length : Int)) = false := decide_eq_false (by omega)
  obtain ⟨E, hE⟩ : ∃ E : Int, E = if twrB ps then 0 else 31 := ⟨_, rfl⟩
  rw [← hE]
  have HE := Lib.hid hE
  have HP := Lib.hid hp
  clear hp hE
  go_enter Try.func47, Try.ntmps47
  go_wp2
  go_loopw [17] (fun i wr => ∃ k : Nat, k ≤ ps.length ∧ i = .int .i64 (k : Int) ∧ Hid (Below w.heap.size w wr) ∧ Hid ((ps.take k).all plankB = true)) (fun i _ => ps.length - (intOf i).toNat)
  case atStart => exact ⟨0, by omega, rfl, Lib.hid (Below.refl _ _), Lib.hid rfl⟩
  case round =>
    obtain ⟨k, hk, rfl, HB, HK⟩ := hrel
    by_cases hlt : k < ps.length
    · have hd : decide ((k : Int) < (ps.length : Int)) = true := decide_eq_true (by omega)
      have hx := below_at HB.out HP.out.lt (HP.out.x k hlt)
      have hy := below_at HB.out HP.out.lt (HP.out.y k hlt)
      have hs : (ps.take (k + 1)).all plankB = plankB ps[k] := by
        rw [List.take_succ_eq_append_getElem hlt, List.all_append, HK.out]; simp
      have HS := Lib.hid hs
      have hf : plankB ps[k] = false → E = 31 := fun h => by
        rw [HE.out]
        have : twrB ps = false := by
          unfold twrB
          rw [Bool.and_eq_false_iff]; right
          rw [List.all_eq_false]; exact ⟨ps[k], List.getElem_mem _, by simp [h]⟩
        rw [this]; rfl
      have HF := Lib.hid hf
      have HB1 := Lib.hid (Below.al HB.out (Nat.le_refl _) (.cells #[.int .i64 ps[k].1, .int .i64 ps[k].2] 58))
      clear hs hf
      generalize ps[k] = p at *
      obtain ⟨p1, p2⟩ := p
      simp only at hx hy HB1
      have c0 : (wr.alloc (.cells #[.int .i64 p1, .int .i64 p2] 58)).cell? ⟨wr.heap.size, 0, none⟩ = some (.int .i64 p1) := by simp [cell_al]
      have c1 : (wr.alloc (.cells #[.int .i64 p1, .int .i64 p2] 58)).cell? ⟨wr.heap.size, 1, none⟩ = some (.int .i64 p2) := by simp [cell_al]
      go_wp2
      go_region
      generalize (wr.alloc (.cells #[.int .i64 p1, .int .i64 p2] 58)) = Z at *
      have HZ := Lib.hid HB1.out.drew
      by_cases a1 : p1 < -1000
      · have dd : decide (p1 < -1000) = true := decide_eq_true a1
        have HEE := Lib.hid (HF.out (plank_false (.inl a1)))
        clear c0 c1 hx hy
        go_wp2
        go_ret
        exact ⟨ret_int HEE.out.symm, HZ.out⟩
      by_cases a2 : 1000 < p1
      · have dd : decide (p1 < -1000) = false := decide_eq_false a1
        have de : decide (1000 < p1) = true := decide_eq_true a2
        have HEE := Lib.hid (HF.out (plank_false (.inr (.inl a2))))
        clear c0 c1 hx hy
        go_wp2
        go_ret
        exact ⟨ret_int HEE.out.symm, HZ.out⟩
      by_cases a3 : p2 < 1
      · have dd : decide (p1 < -1000) = false := decide_eq_false a1
        have de : decide (1000 < p1) = false := decide_eq_false a2
        have df : decide (p2 < 1) = true := decide_eq_true a3
        have HEE := Lib.hid (HF.out (plank_false (.inr (.inr (.inl a3)))))
        clear c0 c1 hx hy
        go_wp2
        go_ret
        exact ⟨ret_int HEE.out.symm, HZ.out⟩
      by_cases a4 : 100 < p2
      · have dd : decide (p1 < -1000) = false := decide_eq_false a1
        have de : decide (1000 < p1) = false := decide_eq_false a2
        have df : decide (p2 < 1) = false := decide_eq_false a3
        have dg : decide (100 < p2) = true := decide_eq_true a4
        have HEE := Lib.hid (HF.out (plank_false (.inr (.inr (.inr a4)))))
        clear c0 c1 hx hy
        go_wp2
        go_ret
        exact ⟨ret_int HEE.out.symm, HZ.out⟩
      have dd : decide (p1 < -1000) = false := decide_eq_false a1
      have de : decide (1000 < p1) = false := decide_eq_false a2
      have df : decide (p2 < 1) = false := decide_eq_false a3
      have dg : decide (100 < p2) = false := decide_eq_false a4
      have HT := Lib.hid (plank_true (p1 := p1) (p2 := p2) (by omega) (by omega) (by omega) (by omega))
      clear c0 c1 hx hy
      go_wp2
      go_roundw
      case rel => exact ⟨k + 1, by omega, rfl, HZ, Lib.hid (by rw [HS.out]; exact HT.out)⟩
      case measure => simp [intOf]; omega
    · have hd : decide ((k : Int) < (ps.length : Int)) = false := decide_eq_false (by omega)
      have hk2 : k = ps.length := by omega
      subst hk2
      have ht : E = 0 := by
        have h := HK.out
        rw [List.take_length] at h
        rw [HE.out]; unfold twrB; rw [h]; simp [h1, h12]
      have HT := Lib.hid ht
      clear ht
      go_wp2
      go_ret
      exact ⟨ret_int HT.out.symm, HB.out⟩
theorem CheckTower_any (ps : List Pt) (b o c : Nat) (w : World) (hp : PtsAt w b o ps) (hl : ps.length ≤ 1000000) :
    Calls Try.prog 47 #[.slice (some ⟨b, o, none⟩) ps.length c] w fun e w' => e = .returned (.int .i64 (if twrB ps then 0 else 31)) ∧ Below w.heap.size w w' := by
  by_cases h : ps.length < 1 ∨ 12 < ps.length
  · exact CheckTower_short ps _ c w hl h
  · exact CheckTower_mid ps b o c w hp (by omega) (by omega)
set_option maxHeartbeats 400000 in
theorem right_any (a1 a2 : Int) (w : World) (h1 : Bd 100000000 a1) (h2 : Bd 100000000 a2) :
    Calls Try.prog 93 #[.agg #[.int .i64 a1, .int .i64 a2]] w fun e w' => e = .returned (.int .i64 (a1 + a2)) ∧ Below w.heap.size w w' := by
  have e1 := i64_bd (h1.add h2) (by omega)
  go_enter Try.func93, Try.ntmps93
  go_wp2_with fail
  go_ret
  exact ⟨rfl, (Below.refl w.heap.size w).alloc (Nat.le_refl _) _⟩
end Go.Proofs.Ytlehddifcjklgaa
