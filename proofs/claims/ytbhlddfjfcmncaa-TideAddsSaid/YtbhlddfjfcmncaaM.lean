import Derived.Test.YtbhlddfjfcmncaaL
import Derived.Test.YtbhlddfjfcmncaaShelf
import Derived.RangeFuncNested
import Derived.RangeFuncBound
import Derived.RangeFuncCalls
import Derived.RangeFuncLeaves
import Derived.Shelf.Abstract
import Derived.Shelf.RegionOpen
import Derived.WalkKit
import Derived.OwnWalkIn
import Derived.TacticsInMore
import Derived.LoopNIn
import Derived.LoopIn
import Derived.WalkSpells
import Derived.WalkLawsBesides
import Derived.BigQuiet
import Derived.Deep.QuietTactic
import Derived.Lib.Hide
import Derived.Deep.RegionHeld3
import Derived.StillTailTactics
import Derived.Lib.MakeNoZero
import Derived.Laws.CopyOwn
import Derived.Deep.RegionLaw
import Derived.Deep.LoopGhost
namespace Go.Proofs.Ytbhlddfjfcmncaa
open Go.RowKit Go.Shelf
attribute [local go_sem] Oper.semAt_some
set_option maxRecDepth 100000 in
set_option maxHeartbeats 1000000 in
theorem hours_any (f r : ByteArray) (h : Int) (w : World) :
    Calls Try.prog 79 #[.agg #[.string f, .string r], .int .i64 h] w fun e w' => e = .returned (.func (.func 95) #[] #[.pointer (some ⟨w.heap.size, 0, none⟩), .pointer (some ⟨w.heap.size + 1, 0, none⟩)]) ∧ w' = (w.alloc (.cells #[.string f, .string r] 23)).alloc (.cells #[.int .i64 h] 3) := by
  go_enter Try.func79, Try.ntmps79
  go_wp2_with fail
  go_ret
  exact ⟨rfl, rfl⟩

theorem findFrom_some {p : Nat → Bool} : ∀ {n h k : Nat}, findFrom p n h = some k → p k = true ∧ ∀ i, h ≤ i → i < k → p i = false
  | 0, _, _, e => by cases e
  | n + 1, h, k, e => by
    unfold findFrom at e
    split at e
    · rename_i hp; cases e; exact ⟨hp, fun i h1 h2 => by omega⟩
    · rename_i hp
      have := findFrom_some e
      refine ⟨this.1, fun i h1 h2 => ?_⟩
      by_cases he : i = h
      · subst he; simpa using hp
      · exact this.2 i (by omega) h2
theorem findFrom_none {p : Nat → Bool} : ∀ {n h : Nat}, findFrom p n h = none → ∀ i, h ≤ i → i < h + n → p i = false
  | 0, _, _ => fun i h1 h2 => by omega
  | n + 1, h, e => by
    unfold findFrom at e
    split at e
    · cases e
    · rename_i hp
      intro i h1 h2
      by_cases he : i = h
      · subst he; simpa using hp
      · exact findFrom_none e i (by omega) (by omega)

/-- is x a sum of an hour of the first tide before h and an hour of the second one? -/
def sumTo (f r g s : ByteArray) (h x : Nat) : Bool :=
  (List.range (min h (f.size + r.size))).any fun i => decide (i ≤ x) && hasB f r i && (if i < f.size then hasB g s (x - i) else rep (hasB g s) r.size (x - i))
theorem sumTo_zero (f r g s : ByteArray) (x : Nat) : sumTo f r g s 0 x = false := by unfold sumTo; simp
theorem sumTo_succ (f r g s : ByteArray) (k x : Nat) (hk : k < f.size + r.size) (hh : hasB f r k = true) :
    sumTo f r g s (k + 1) x = (sumTo f r g s k x || (decide (k ≤ x) && (if k < f.size then hasB g s (x - k) else rep (hasB g s) r.size (x - k)))) := by
  unfold sumTo
  rw [show min (k + 1) (f.size + r.size) = k + 1 by omega, show min k (f.size + r.size) = k by omega, List.range_succ, List.any_append]
  simp [hh]
theorem sumTo_skip (f r g s : ByteArray) (h : Nat) : ∀ (k x : Nat), h ≤ k → (∀ i, h ≤ i → i < k → i < f.size + r.size → hasB f r i = false) → sumTo f r g s k x = sumTo f r g s h x := by
  intro k x hk hno
  obtain ⟨d, rfl⟩ : ∃ d, k = h + d := ⟨k - h, by omega⟩
  clear hk
  induction d with
  | zero => rfl
  | succ d ih =>
    rw [← ih (fun i h1 h2 h3 => hno i h1 (by omega) h3)]
    by_cases hlt : h + d < f.size + r.size
    · have hz := hno (h + d) (by omega) (by omega) hlt
      unfold sumTo
      rw [show min (h + (d + 1)) (f.size + r.size) = (h + d) + 1 by omega, show min (h + d) (f.size + r.size) = h + d by omega, List.range_succ, List.any_append]
      simp [hz]
    · unfold sumTo
      rw [show min (h + (d + 1)) (f.size + r.size) = f.size + r.size by omega, show min (h + d) (f.size + r.size) = f.size + r.size by omega]
def sumB (f r g s : ByteArray) (x : Nat) : Bool := sumTo f r g s (f.size + r.size) x
theorem sumTo_full (f r g s : ByteArray) (h x : Nat) (hh : f.size + r.size ≤ h) : sumTo f r g s h x = sumB f r g s x := by
  unfold sumB sumTo; rw [show min h (f.size + r.size) = f.size + r.size by omega, Nat.min_self]

theorem grownBy_refl (w : World) (row : Option Nat) : w.grownBy w row := ⟨rfl, rfl, rfl, Nat.le_refl _, fun _ _ _ => rfl⟩
theorem grownBy_set {V W : World} {g : Nat} (h : V.grownBy W (some g)) (i : Nat) (v : Value) : V.grownBy (W.setCell ⟨g, i, none⟩ v) (some g) :=
  ⟨h.os, h.tape, h.output, by show _ ≤ (World.setCell _ _ _).heap.size; simp only [World.setCell, Array.size_modify]; exact h.size, fun k hk hne => by
    rw [Below.heap_setCell _ _ _ _ (fun e => hne (by rw [e]))]; exact h.block k hk hne⟩
theorem grownBy_below {V W W' : World} {row : Option Nat} (h : V.grownBy W row) (hb : Below V.heap.size W W') : V.grownBy W' row :=
  ⟨hb.os.trans h.os, hb.tape.trans h.tape, hb.output.trans h.output, Nat.le_trans h.size hb.size, fun k hk hne => (hb.block k hk).trans (h.block k hk hne)⟩
theorem grownBy_cell {V W : World} {g b o : Nat} {v : Value} (h : V.grownBy W (some g)) (hv : V.cell? ⟨b, o, none⟩ = some v) (hne : b ≠ g) : W.cell? ⟨b, o, none⟩ = some v := by
  rw [World.cell?_of_block (w := V) (a := ⟨b, o, none⟩) (h.block b (block_lt_of_cell hv) (fun e => hne (by cases e; rfl)))]; exact hv
theorem lasts_grownBy (V : World) (g : Nat) : Lasts V.heap.size (fun W => V.grownBy W (some g)) := fun W W' row hi hg hr =>
  ⟨hg.os.trans hi.os, hg.tape.trans hi.tape, hg.output.trans hi.output, Nat.le_trans hi.size hg.size, fun k hk hne =>
    (hg.block k (Nat.lt_of_lt_of_le hk hi.size) (fun e => by have := (hr k e.symm).1; omega)).trans (hi.block k hk hne)⟩

/-- as range_hours, where the loop variable lies in a slot -/
theorem range_hours_slot {g : Operand} {p q : Tmp} {assign body : Code} {Q : Exit → Act → World → Prop} {ts : Array Value} {w : World} (n Bt Bf : Nat) (f r : ByteArray) (E h0 : Nat)
    (hg : (Act.mk ts []).eval g = .func (.func 95) #[] #[.pointer (some ⟨Bt, 0, none⟩), .pointer (some ⟨Bf, 0, none⟩)])
    (z1 : f.size ≤ 60) (z2 : r.size ≤ 60) (z3 : 1 ≤ r.size) (hE : E ≤ 1100000000)
    (I : Nat → World → Prop) (Ix : Code → World → Prop) (hI : ∀ h, Lasts w.heap.size (I h)) (hIx : ∀ c, Lasts w.heap.size (Ix c))
    (hc : ∀ h W, I h W → W.cell? ⟨Bt, 0, none⟩ = some (.string f) ∧ W.cell? ⟨Bt, 1, none⟩ = some (.string r))
    (hbd : ∀ h W, I h W → h ≤ E) (hBf : w.cell? ⟨Bf, 0, none⟩ = some (.int .i64 h0)) (hi0 : I h0 w)
    (hassign : ∀ (l k : Nat) (W : World) (K : Act → World → Prop), K { tmps := (ts.setIfInBounds p (.int .i64 (k : Int))).setIfInBounds q (.int .i64 (k : Int)), defers := [] } W →
      assign.wpIn (Fence.wide.inRound l) (n - 1 - 1) Try.prog (Exit.then K (fun _ _ _ => False)) { tmps := ts.setIfInBounds p (.int .i64 (k : Int)), defers := [] } W)
    (hbody : ∀ (l h k : Nat) (W : World), I h W → nextO f r h = some k → body.wpIn (Fence.wide.inRound l) (n - 1 - 1) Try.prog (roundEnds w.heap.size I Ix k W) { tmps := (ts.setIfInBounds p (.int .i64 (k : Int))).setIfInBounds q (.int .i64 (k : Int)), defers := [] } W)
    (hdone : ∀ (D h : Nat) (W : World), w.heap.size ≤ D → nextO f r h = none → I h W → W.heap[D]? = some (.deferred (some [])) → Q .normal { tmps := ts, defers := [{ target := .collected D, args := #[] }] } W)
    (hstop : ∀ (D : Nat) (c : Code) (W : World), w.heap.size ≤ D → Ix c W → W.heap[D]? = some (.deferred (some [])) → c.wpIn Fence.wide n Try.prog Q { tmps := ts, defers := [{ target := .collected D, args := #[] }] } W) :
    (Code.rangeFunc g #[p] assign body).wpIn Fence.wide n Try.prog Q { tmps := ts, defers := [] } w :=
  range_hours n Bt Bf f r E h0 hg z1 z2 z3 hE I Ix hI hIx hc hbd hBf hi0 (fun k => { tmps := (ts.setIfInBounds p (.int .i64 (k : Int))).setIfInBounds q (.int .i64 (k : Int)), defers := [] }) hassign hbody hdone hstop

set_option maxRecDepth 100000 in
set_option maxHeartbeats 2000000 in
theorem sums_in (f r g s : ByteArray) (n : Nat) (w : World) (z1 : f.size ≤ 60) (z2 : r.size ≤ 60) (z3 : 1 ≤ r.size) (y3 : 1 ≤ s.size) (hn1 : f.size + r.size ≤ n) (hn2 : n ≤ 8192) :
    CallsIn Fence.wide 9 Try.prog 73 #[.agg #[.string f, .string r], .agg #[.string g, .string s], .int .i64 n] w fun e w' => ∃ G rest, e = .returned (.slice (some ⟨G, 0, none⟩) n n) ∧ w.heap.size ≤ G ∧ RowN w' G (marksOf n (sumB f r g s)) rest ∧ Below w.heap.size w w' := by
  refine callsIn_of_wp_marks Try.func73 rfl trivial ?_ rfl
  simp only [Try.ntmps73, List.size_toArray, List.length_cons, List.length_nil, Nat.reduceAdd, Nat.reduceSub, Array.replicate_succ, Array.replicate_zero, List.push_toArray, List.append_toArray, List.nil_append, List.cons_append]
  gi_wp2_with fail
  refine ⟨trivial, ?_⟩
  refine (callsIn_wide.2 (told_any g s n _ y3 (by omega))).mono ?_
  rintro e w1 ⟨b1, rfl, hb1, hrow1, hbel1⟩
  obtain ⟨W0, hW0⟩ : ∃ W0, W0 = ((w.alloc (.cells #[.string f, .string r] 23)).alloc (.cells #[.string g, .string s] 23)).alloc (.cells #[.int .i64 (n : Int)] 3) := ⟨_, rfl⟩
  have hsz : W0.heap.size = w.heap.size + 3 := by rw [hW0, size_al, size_al, size_al]
  have B0 : Hid (Below w.heap.size w W0) := Lib.hid (by rw [hW0]; exact (((Below.refl _ _).alloc (Nat.le_refl _) _).alloc (by rw [size_al]; omega) _).alloc (by rw [size_al, size_al]; omega) _)
  have P : Hid (∀ W, Below W0.heap.size W0 W → W.cell? ⟨w.heap.size, 0, none⟩ = some (.string f) ∧ W.cell? ⟨w.heap.size, 1, none⟩ = some (.string r) ∧ W.cell? ⟨w.heap.size + 1 + 1, 0, none⟩ = some (.int .i64 n)) := Lib.hid (fun W h => by
    refine ⟨below_at h (by omega) ?_, below_at h (by omega) ?_, below_at h (by omega) ?_⟩ <;> (rw [hW0]; simp [cell_al] <;> (intro h; omega)))
  rw [← hW0] at hb1 hbel1
  have T1 : Hid (Below W0.heap.size W0 w1) := Lib.hid hbel1
  have Hsz := Lib.hid hsz
  have R1 := Lib.hid hrow1
  clear hrow1 hbel1 hW0 hsz
  obtain ⟨p0, p1, p2⟩ := P.out w1 T1.out
  have T1a : Hid (Below W0.heap.size W0 (w1.alloc (.cells #[.slice (some ⟨b1, 0, none⟩) n n] 85))) := Lib.hid (T1.out.alloc T1.out.size _)
  obtain ⟨q0, q1, q2⟩ := P.out _ T1a.out
  gi_wp2_with fail
  refine ⟨trivial, ?_⟩
  refine (callsIn_wide.2 (repeated_any b1 0 n n r.size (hasB g s) _ (by omega) z3 (by omega) ((R1.out.below ((Below.refl w1.heap.size w1).alloc (Nat.le_refl _) _) R1.out.lt).atB))).mono ?_
  rintro e w2 ⟨b2, cap2, rest2, rfl, hb2, hcap2, hrow2, hbel2⟩
  have T2 : Hid (Below W0.heap.size W0 w2) := Lib.hid (Below.andThen T1a.out hbel2 (Nat.le_refl _))
  have T2a : Hid (Below W0.heap.size W0 ((w2.alloc (.cells #[.slice (some ⟨b2, 0, none⟩) n cap2] 85)).alloc (.cells #[.int .u8 48] 5))) := Lib.hid ((T2.out.alloc T2.out.size _).alloc (by have := T2.out.size; rw [size_al]; omega) _)
  have B12 : Hid (Below (w1.heap.size + 1) (w1.alloc (.cells #[.slice (some ⟨b1, 0, none⟩) n n] 85)) w2) := Lib.hid (by rw [size_al] at hbel2; exact hbel2)
  have R2 := Lib.hid hrow2
  clear hrow2 hbel2 p0 p1 p2 q0 q1 q2
  obtain ⟨q0, q1, q2⟩ := P.out _ T2a.out
  gi_wp2_with fail
  refine ⟨trivial, ?_⟩
  refine (callsIn_wide.2 (repeat_one (w2.heap.size + 1) 1 n 48 _ (by omega) (by omega) (by simp [cell_al]; rfl))).mono ?_
  rintro e w3 ⟨b3, rest3, rfl, hb3, hrow3, hbel3⟩
  have T3 : Hid (Below W0.heap.size W0 w3) := Lib.hid (Below.andThen T2a.out hbel3 (Nat.le_refl _))
  have T3a : Hid (Below W0.heap.size W0 (w3.alloc (.cells #[.slice (some ⟨b3, 0, none⟩) n n] 85))) := Lib.hid (T3.out.alloc T3.out.size _)
  rw [size_al, size_al] at hb3
  have B23 : Hid (Below (w2.heap.size + 2) ((w2.alloc (.cells #[.slice (some ⟨b2, 0, none⟩) n cap2] 85)).alloc (.cells #[.int .u8 48] 5)) w3) := Lib.hid (by rw [size_al, size_al] at hbel3; exact hbel3)
  have R3 := Lib.hid hrow3
  clear hrow3 hbel3 q0 q1 q2
  obtain ⟨q0, q1, q2⟩ := P.out _ T3a.out
  gi_wp2_with fail
  refine ⟨trivial, ?_⟩
  refine (callsIn_wide.2 (hours_any f r 0 _)).mono ?_
  rintro e w4 ⟨rfl, rfl⟩
  obtain ⟨V, hV⟩ : ∃ V, V = ((w3.alloc (.cells #[.slice (some ⟨b3, 0, none⟩) n n] 85)).alloc (.cells #[.string f, .string r] 23)).alloc (.cells #[.int .i64 0] 3) := ⟨_, rfl⟩
  have VS : V.heap.size = w3.heap.size + 3 := by rw [hV, size_al, size_al, size_al]
  have h32 : w2.heap.size + 2 ≤ w3.heap.size := by have := B23.out.size; rw [size_al, size_al] at this; omega
  have h21 : w1.heap.size + 1 ≤ w2.heap.size := by have := B12.out.size; rw [size_al] at this; omega
  have h10 : w.heap.size + 3 ≤ w1.heap.size := by have := T1.out.size; have := Hsz.out; omega
  have BV3 : Below w3.heap.size w3 V := by
    rw [hV]; exact (((Below.refl _ _).alloc (Nat.le_refl _) _).alloc (by rw [size_al]; omega) _).alloc (by rw [size_al, size_al]; omega) _
  have BV2 : Below (w2.heap.size + 2) ((w2.alloc (.cells #[.slice (some ⟨b2, 0, none⟩) n cap2] 85)).alloc (.cells #[.int .u8 48] 5)) V := B23.out.trans (BV3.mono h32)
  have BV2' : Below w2.heap.size w2 V := (((Below.refl _ _).alloc (Nat.le_refl _) _).alloc (by rw [size_al]; omega) _).trans (BV2.mono (by omega))
  have BV1 : Below (w1.heap.size + 1) (w1.alloc (.cells #[.slice (some ⟨b1, 0, none⟩) n n] 85)) V := B12.out.trans (BV2'.mono h21)
  have BV1' : Below w1.heap.size w1 V := ((Below.refl _ _).alloc (Nat.le_refl _) _).trans (BV1.mono (by omega))
  have BV0 : Below W0.heap.size W0 V := T1.out.trans (BV1'.mono (by have := Hsz.out; omega))
  have l1 : b1 < w1.heap.size := R1.out.lt
  have l2 : b2 < w2.heap.size := R2.out.lt
  have l3 : b3 < w3.heap.size := R3.out.lt
  have v7 : V.cell? ⟨w1.heap.size, 0, none⟩ = some (.slice (some ⟨b1, 0, none⟩) n n) := below_at BV1 (by omega) (by simp [cell_al])
  have v8 : V.cell? ⟨w2.heap.size, 0, none⟩ = some (.slice (some ⟨b2, 0, none⟩) n cap2) := below_at BV2 (by omega) (by simp [cell_al])
  have v9 : V.cell? ⟨w3.heap.size, 0, none⟩ = some (.slice (some ⟨b3, 0, none⟩) n n) := by rw [hV]; simp [cell_al]; intro h; omega
  have vt0 : V.cell? ⟨w3.heap.size + 1, 0, none⟩ = some (.string f) := by rw [hV]; simp [cell_al]
  have vt1 : V.cell? ⟨w3.heap.size + 1, 1, none⟩ = some (.string r) := by rw [hV]; simp [cell_al]
  have vf : V.cell? ⟨w3.heap.size + 1 + 1, 0, none⟩ = some (.int .i64 0) := by rw [hV]; simp [cell_al]
  have vr1 : Row V b1 5 ((toldL g s n).map encB) := R1.out.below BV1' l1
  have vr2 : RowN V b2 (marksOf n (rep (hasB g s) r.size)) rest2 := R2.out.below BV2' l2
  have vr3 : RowN V b3 (List.replicate n 48) rest3 := R3.out.below BV3 l3
  obtain ⟨vp0, vp1, vp2⟩ := P.out V BV0
  rw [← hV]
  have BW : Below w.heap.size w V := B0.out.trans (BV0.mono (by have := Hsz.out; omega))
  have Vfacts := Lib.hid (And.intro VS (And.intro BW (And.intro v7 (And.intro v8 (And.intro v9 (And.intro vt0 (And.intro vt1 (And.intro vf (And.intro vr1 (And.intro vr2 (And.intro vr3 (And.intro vp0 (And.intro vp1 vp2)))))))))))))
  clear hV BV3 BV2 BV2' BV1 BV1' BV0 q0 q1 q2 VS BW v7 v8 v9 vt0 vt1 vf vr1 vr2 vr3 vp0 vp1 vp2 T1 T1a T2 T2a T3 T3a B12 B23 R1 R2 R3
  gi_wp2_with fail
  have VC : Hid (∀ W, V.grownBy W (some b3) → (W.cell? ⟨w.heap.size, 0, none⟩ = some (.string f) ∧ W.cell? ⟨w.heap.size, 1, none⟩ = some (.string r) ∧ W.cell? ⟨w.heap.size + 1 + 1, 0, none⟩ = some (.int .i64 n)) ∧
      (W.cell? ⟨w1.heap.size, 0, none⟩ = some (.slice (some ⟨b1, 0, none⟩) n n) ∧ W.cell? ⟨w2.heap.size, 0, none⟩ = some (.slice (some ⟨b2, 0, none⟩) n cap2) ∧ W.cell? ⟨w3.heap.size, 0, none⟩ = some (.slice (some ⟨b3, 0, none⟩) n n)) ∧
      (W.cell? ⟨w3.heap.size + 1, 0, none⟩ = some (.string f) ∧ W.cell? ⟨w3.heap.size + 1, 1, none⟩ = some (.string r)) ∧
      AtB W b1 0 (marksOf n (hasB g s)) ∧ AtB W b2 0 (marksOf n (rep (hasB g s) r.size))) := Lib.hid (fun W hg => by
    obtain ⟨VS, BW, v7, v8, v9, vt0, vt1, vf, vr1, vr2, vr3, vp0, vp1, vp2⟩ := Vfacts.out
    refine ⟨⟨grownBy_cell hg vp0 (by omega), grownBy_cell hg vp1 (by omega), grownBy_cell hg vp2 (by omega)⟩, ⟨grownBy_cell hg v7 (by omega), grownBy_cell hg v8 (by omega), grownBy_cell hg v9 (by omega)⟩, ⟨grownBy_cell hg vt0 (by omega), grownBy_cell hg vt1 (by omega)⟩, ?_, ?_⟩
    · intro i hi; exact grownBy_cell hg (vr1.atB i (by rw [toldL_length]; rwa [marksOf_length] at hi)) (by omega)
    · intro i hi; exact grownBy_cell hg (vr2.atB i hi) (by omega))
  have VS := Lib.hid Vfacts.out.1
  refine range_hours_slot (q := 10) 9 (w3.heap.size + 1) (w3.heap.size + 1 + 1) f r (f.size + r.size) 0 rfl z1 z2 z3 (by omega)
    (fun h W => RowN W b3 (marksOf n (sumTo f r g s h)) rest3 ∧ V.grownBy W (some b3) ∧ h ≤ f.size + r.size)
    (fun c W => (c = .exit 0 ∧ RowN W b3 (marksOf n (sumB f r g s)) rest3) ∧ V.grownBy W (some b3))
    (fun h => (lasts_row _ _ _ _).and ((lasts_grownBy V b3).and (lasts_pure _ _))) (fun c => ((lasts_pure _ _).and (lasts_row _ _ _ _)).and (lasts_grownBy V b3)) ?hc ?hbd ?hBf ?hi0 ?hassign ?hbody ?hdone ?hstop
  case hc => exact fun h W hi => (VC.out W hi.2.1).2.2.1
  case hbd => exact fun h W hi => hi.2.2
  case hBf => exact Vfacts.out.2.2.2.2.2.2.2.1
  case hi0 =>
    refine ⟨?_, grownBy_refl V _, Nat.zero_le _⟩
    have h := Vfacts.out.2.2.2.2.2.2.2.2.2.2.1
    have e : List.replicate n 48 = marksOf n (sumTo f r g s 0) := by
      apply List.ext_getElem
      · simp [marksOf_length]
      · intro i h1 h2; rw [marksOf_get, sumTo_zero]; simp; rfl
    rw [← e]; exact h
  case hassign =>
    intro l k W K hK
    gi_wp2
    exact hK
  case hbody =>
    rintro l h k W ⟨hrow, hgr, hle⟩ hn
    simp only [List.setIfInBounds_toArray, List.set_cons_succ, List.set_cons_zero]
    have hk0 := (findFrom_ge hn).1
    have hk9 : k ≤ 1000 := by have := (findFrom_ge hn).2; omega
    have hS := findFrom_some hn
    have SK : Hid (marksOf n (sumTo f r g s h) = marksOf n (sumTo f r g s k)) := Lib.hid (marksOf_congr fun x _ => (sumTo_skip f r g s h k x hk0 (fun i h1 h2 _ => hS.2 i h1 h2)).symm)
    have HK := Lib.hid hS.1
    have ROW : Hid (RowN W b3 (marksOf n (sumTo f r g s k)) rest3) := Lib.hid (by rw [← SK.out]; exact hrow)
    have GR := Lib.hid hgr
    obtain ⟨⟨c0, c1, c2⟩, ⟨c7, c8, c9⟩, _, A1, A2⟩ := VC.out W hgr
    have A1' := Lib.hid A1
    have A2' := Lib.hid A2
    clear hrow hgr hn hS SK A1 A2
    by_cases hbig : f.size + r.size ≤ k
    · have FULL : Hid (RowN W b3 (marksOf n (sumB f r g s)) rest3) := Lib.hid (by
        have e := marksOf_congr (n := n) (fun x (_ : x < n) => sumTo_full f r g s k x hbig)
        rw [← e]; exact ROW.out)
      gi_wp2_with fail
      exact ⟨KeepsFrom.refl _ _, ⟨rfl, FULL.out⟩, GR.out⟩
    · have e1 : (n : Int) - (k : Int) = ((n - k : Nat) : Int) := by omega
      have s1 : ∀ w, (Instr.slice 85 (.slice (some ⟨b1, 0, none⟩) n n) none (some (.int .i64 ((n : Int) - (k : Int)))) none).run Try.prog w = .ok (.slice (some ⟨b1, 0, none⟩) (n - k) n) w := fun w => by
        rw [e1]; exact slice_to b1 0 n n (n - k) (by omega) w
      have s2 : ∀ w, (Instr.slice 85 (.slice (some ⟨b2, 0, none⟩) n cap2) none (some (.int .i64 ((n : Int) - (k : Int)))) none).run Try.prog w = .ok (.slice (some ⟨b2, 0, none⟩) (n - k) cap2) w := fun w => by
        rw [e1]; exact slice_to b2 0 n cap2 (n - k) (by omega) w
      clear e1
      have tb : decide ((f.size : Int) + (r.size : Int) ≤ (k : Int)) = false := decide_eq_false (by omega)
      by_cases hf1 : f.size ≤ k
      · have tt : decide (f.size ≤ k) = true := by simp; omega
        have SU : Hid (∀ x, sumTo f r g s (k + 1) x = (sumTo f r g s k x || (decide (k ≤ x) && (rep (hasB g s) r.size) (x - k)))) := Lib.hid (fun x => by
          rw [sumTo_succ f r g s k x (by omega) HK.out, if_neg (by omega)])
        have AA : Hid (∀ W, V.grownBy W (some b3) → AtB W b2 0 (marksOf n ((rep (hasB g s) r.size)))) := Lib.hid (fun W h => (VC.out W h).2.2.2.2)
        gi_wp2_with fail
        clear s1 s2 tt tb c0 c1 c2 c7 c8 c9
        gi_loopw [12, 13, 50] (fun _ _ i wr => ∃ m : Nat, m ≤ n - k ∧ i = .int .i64 m ∧ Hid (RowN wr b3 (marksOf n (fun x => sumTo f r g s k x || (decide (k ≤ x ∧ x - k < m) && (rep (hasB g s) r.size) (x - k)))) rest3) ∧ Hid (V.grownBy wr (some b3)) ∧ Hid (KeepsFrom V.heap.size W wr)) (fun _ _ i _ => n - k - (intOf i).toNat)
        case atStart =>
          refine ⟨0, Nat.zero_le _, rfl, Lib.hid ?_, GR, Lib.hid (KeepsFrom.refl _ _)⟩
          have e := marksOf_congr (n := n) (p := fun x => sumTo f r g s k x || (decide (k ≤ x ∧ x - k < 0) && (rep (hasB g s) r.size) (x - k))) (q := sumTo f r g s k) (fun x _ => by simp)
          rw [e]; exact ROW.out
        case round =>
          obtain ⟨m, hm, rfl, hR, hG, hKF⟩ := hrel
          by_cases hlt : m < n - k
          · have cA := (AA.out _ hG.out) m (by rw [marksOf_length]; omega)
            rw [marksOf_get, Nat.zero_add] at cA
            have cB := hR.out.cell (k + m) (by rw [marksOf_length]; omega)
            have fB := hR.out.frozen (k + m)
            obtain ⟨cc, hcc⟩ : ∃ c, c = (marksOf n (fun x => sumTo f r g s k x || (decide (k ≤ x ∧ x - k < m) && (rep (hasB g s) r.size) (x - k))))[k + m]'(by rw [marksOf_length]; omega) := ⟨_, rfl⟩
            rw [← hcc] at cB
            clear hcc
            obtain ⟨_, ⟨_, _, c9⟩, _, _, _⟩ := VC.out _ hG.out
            have t49 := markU49 (((rep (hasB g s) r.size)) m)
            unfold encB at cA cB
            cases hb : ((rep (hasB g s) r.size)) m
            · have R2 : Hid (RowN wr b3 (marksOf n (fun x => sumTo f r g s k x || (decide (k ≤ x ∧ x - k < m + 1) && (rep (hasB g s) r.size) (x - k)))) rest3) := Lib.hid (by
                rw [marksOf_congr (q := fun x => sumTo f r g s k x || (decide (k ≤ x ∧ x - k < m) && (rep (hasB g s) r.size) (x - k)))]; exact hR.out
                intro x _
                show (_ || _) = (_ || _)
                congr 1
                by_cases hx : k ≤ x ∧ x - k = m
                · rw [hx.2, hb, Bool.and_false, Bool.and_false]
                · congr 1; apply decide_eq_decide.2; omega)
              rw [hb] at t49 cA
              have Hb := Lib.hid hb
              clear hb cB fB
              gi_wp2_with fail
              go_roundw
              case rel => exact ⟨m + 1, by omega, by go_num, R2, hG, hKF⟩
              case measure => simp [intOf]; omega
            · have R2 : Hid (RowN (wr.setCell ⟨b3, k + m, none⟩ (encB 49)) b3 (marksOf n (fun x => sumTo f r g s k x || (decide (k ≤ x ∧ x - k < m + 1) && (rep (hasB g s) r.size) (x - k)))) rest3) := Lib.hid (by
                have h := hR.out.set (k + m) 49 (by rw [marksOf_length]; omega)
                have e49 : (49 : UInt8) = markU ((fun x => sumTo f r g s k x || (decide (k ≤ x ∧ x - k < m + 1) && (rep (hasB g s) r.size) (x - k))) (k + m)) := by
                  show 49 = markU (_ || (decide (k ≤ k + m ∧ k + m - k < m + 1) && _))
                  rw [decide_eq_true (by omega), show k + m - k = m by omega, hb]; simp; rfl
                rw [e49] at h
                rw [marksOf_set (q := fun x => sumTo f r g s k x || (decide (k ≤ x ∧ x - k < m + 1) && (rep (hasB g s) r.size) (x - k))) (by omega)] at h
                · rw [← e49] at h; exact h
                · intro x _ hx
                  show (_ || _) = (_ || _)
                  congr 1; congr 1; apply decide_eq_decide.2; omega)
              rw [hb] at t49 cA
              have Hb := Lib.hid hb
              clear hb
              gi_wp2_with fail
              go_roundw
              case rel => exact ⟨m + 1, by omega, by go_num, R2, Lib.hid (grownBy_set hG.out _ _), Lib.hid (hKF.out.trans ((KeepsOthers.setCell _ _ _).from _))⟩
              case measure => simp [intOf]; omega
          · have R2 : Hid (RowN wr b3 (marksOf n (sumTo f r g s (k + 1))) rest3) := Lib.hid (by
              rw [marksOf_congr (q := fun x => sumTo f r g s k x || (decide (k ≤ x ∧ x - k < m) && (rep (hasB g s) r.size) (x - k)))]; exact hR.out
              intro x hx
              rw [SU.out]
              show (_ || _) = (_ || _)
              congr 1; congr 1; apply decide_eq_decide.2; omega)
            gi_wp2_with fail
            exact ⟨hKF.out, R2.out, hG.out, by omega⟩
      · have tt : decide (f.size ≤ k) = false := by simp; omega
        have SU : Hid (∀ x, sumTo f r g s (k + 1) x = (sumTo f r g s k x || (decide (k ≤ x) && (hasB g s) (x - k)))) := Lib.hid (fun x => by
          rw [sumTo_succ f r g s k x (by omega) HK.out, if_pos (by omega)])
        have AA : Hid (∀ W, V.grownBy W (some b3) → AtB W b1 0 (marksOf n ((hasB g s)))) := Lib.hid (fun W h => (VC.out W h).2.2.2.1)
        gi_wp2_with fail
        clear s1 s2 tt tb c0 c1 c2 c7 c8 c9
        gi_loopw [12, 13, 50] (fun _ _ i wr => ∃ m : Nat, m ≤ n - k ∧ i = .int .i64 m ∧ Hid (RowN wr b3 (marksOf n (fun x => sumTo f r g s k x || (decide (k ≤ x ∧ x - k < m) && (hasB g s) (x - k)))) rest3) ∧ Hid (V.grownBy wr (some b3)) ∧ Hid (KeepsFrom V.heap.size W wr)) (fun _ _ i _ => n - k - (intOf i).toNat)
        case atStart =>
          refine ⟨0, Nat.zero_le _, rfl, Lib.hid ?_, GR, Lib.hid (KeepsFrom.refl _ _)⟩
          have e := marksOf_congr (n := n) (p := fun x => sumTo f r g s k x || (decide (k ≤ x ∧ x - k < 0) && (hasB g s) (x - k))) (q := sumTo f r g s k) (fun x _ => by simp)
          rw [e]; exact ROW.out
        case round =>
          obtain ⟨m, hm, rfl, hR, hG, hKF⟩ := hrel
          by_cases hlt : m < n - k
          · have cA := (AA.out _ hG.out) m (by rw [marksOf_length]; omega)
            rw [marksOf_get, Nat.zero_add] at cA
            have cB := hR.out.cell (k + m) (by rw [marksOf_length]; omega)
            have fB := hR.out.frozen (k + m)
            obtain ⟨cc, hcc⟩ : ∃ c, c = (marksOf n (fun x => sumTo f r g s k x || (decide (k ≤ x ∧ x - k < m) && (hasB g s) (x - k))))[k + m]'(by rw [marksOf_length]; omega) := ⟨_, rfl⟩
            rw [← hcc] at cB
            clear hcc
            obtain ⟨_, ⟨_, _, c9⟩, _, _, _⟩ := VC.out _ hG.out
            have t49 := markU49 (((hasB g s)) m)
            unfold encB at cA cB
            cases hb : ((hasB g s)) m
            · have R2 : Hid (RowN wr b3 (marksOf n (fun x => sumTo f r g s k x || (decide (k ≤ x ∧ x - k < m + 1) && (hasB g s) (x - k)))) rest3) := Lib.hid (by
                rw [marksOf_congr (q := fun x => sumTo f r g s k x || (decide (k ≤ x ∧ x - k < m) && (hasB g s) (x - k)))]; exact hR.out
                intro x _
                show (_ || _) = (_ || _)
                congr 1
                by_cases hx : k ≤ x ∧ x - k = m
                · rw [hx.2, hb, Bool.and_false, Bool.and_false]
                · congr 1; apply decide_eq_decide.2; omega)
              rw [hb] at t49 cA
              have Hb := Lib.hid hb
              clear hb cB fB
              gi_wp2_with fail
              go_roundw
              case rel => exact ⟨m + 1, by omega, by go_num, R2, hG, hKF⟩
              case measure => simp [intOf]; omega
            · have R2 : Hid (RowN (wr.setCell ⟨b3, k + m, none⟩ (encB 49)) b3 (marksOf n (fun x => sumTo f r g s k x || (decide (k ≤ x ∧ x - k < m + 1) && (hasB g s) (x - k)))) rest3) := Lib.hid (by
                have h := hR.out.set (k + m) 49 (by rw [marksOf_length]; omega)
                have e49 : (49 : UInt8) = markU ((fun x => sumTo f r g s k x || (decide (k ≤ x ∧ x - k < m + 1) && (hasB g s) (x - k))) (k + m)) := by
                  show 49 = markU (_ || (decide (k ≤ k + m ∧ k + m - k < m + 1) && _))
                  rw [decide_eq_true (by omega), show k + m - k = m by omega, hb]; simp; rfl
                rw [e49] at h
                rw [marksOf_set (q := fun x => sumTo f r g s k x || (decide (k ≤ x ∧ x - k < m + 1) && (hasB g s) (x - k))) (by omega)] at h
                · rw [← e49] at h; exact h
                · intro x _ hx
                  show (_ || _) = (_ || _)
                  congr 1; congr 1; apply decide_eq_decide.2; omega)
              rw [hb] at t49 cA
              have Hb := Lib.hid hb
              clear hb
              gi_wp2_with fail
              go_roundw
              case rel => exact ⟨m + 1, by omega, by go_num, R2, Lib.hid (grownBy_set hG.out _ _), Lib.hid (hKF.out.trans ((KeepsOthers.setCell _ _ _).from _))⟩
              case measure => simp [intOf]; omega
          · have R2 : Hid (RowN wr b3 (marksOf n (sumTo f r g s (k + 1))) rest3) := Lib.hid (by
              rw [marksOf_congr (q := fun x => sumTo f r g s k x || (decide (k ≤ x ∧ x - k < m) && (hasB g s) (x - k)))]; exact hR.out
              intro x hx
              rw [SU.out]
              show (_ || _) = (_ || _)
              congr 1; congr 1; apply decide_eq_decide.2; omega)
            gi_wp2_with fail
            exact ⟨hKF.out, R2.out, hG.out, by omega⟩
  case hdone =>
    rintro D h W hD hn ⟨hrow, hgr, hle⟩ hK
    have FULL : Hid (RowN W b3 (marksOf n (sumB f r g s)) rest3) := Lib.hid (by
      have hno := findFrom_none hn
      have e := marksOf_congr (n := n) (p := sumB f r g s) (q := sumTo f r g s h) (fun x _ => by
        rw [← sumTo_full f r g s (f.size + r.size) x (Nat.le_refl _)]
        exact sumTo_skip f r g s h (f.size + r.size) x hle (fun i h1 h2 h3 => hno i h1 (by omega)))
      rw [e]; exact hrow)
    clear hrow hn
    obtain ⟨_, ⟨_, _, c9⟩, _, _, _⟩ := VC.out _ hgr
    have GR := Lib.hid hgr
    have VB : Hid (∀ W', V.grownBy W' (some b3) → Below w.heap.size w W') := Lib.hid (fun W' hg => Vfacts.out.2.1.grown hg Vfacts.out.2.1.size (fun j e => by cases e; omega))
    have HD := Lib.hid hD
    have HK := Lib.hid hK
    clear hgr hD hK
    gi_wp2_with fail
    refine ⟨by simp, .inl ⟨_, _, rfl, run_takeDeferred HK.out, ?_⟩⟩
    refine ⟨_, results_tmp rfl _ _ _, b3, rest3, rfl, by omega, ?_, ?_⟩
    · have h := (lasts_row V.heap.size b3 5 _).put (l := D) (.deferred none) FULL.out HD.out HK.out rfl
      exact h
    · exact below_put (VB.out _ GR.out) (Nat.le_trans Vfacts.out.2.1.size HD.out) HK.out _
  case hstop =>
    rintro D c W hD ⟨⟨rfl, hrow⟩, hgr⟩ hK
    have FULL := Lib.hid hrow
    clear hrow
    obtain ⟨_, ⟨_, _, c9⟩, _, _, _⟩ := VC.out _ hgr
    have GR := Lib.hid hgr
    have VB : Hid (∀ W', V.grownBy W' (some b3) → Below w.heap.size w W') := Lib.hid (fun W' hg => Vfacts.out.2.1.grown hg Vfacts.out.2.1.size (fun j e => by cases e; omega))
    have HD := Lib.hid hD
    have HK := Lib.hid hK
    clear hgr hD hK
    gi_wp2_with fail
    refine ⟨by simp, .inl ⟨_, _, rfl, run_takeDeferred HK.out, ?_⟩⟩
    refine ⟨_, results_tmp rfl _ _ _, b3, rest3, rfl, by omega, ?_, ?_⟩
    · have h := (lasts_row V.heap.size b3 5 _).put (l := D) (.deferred none) FULL.out HD.out HK.out rfl
      exact h
    · exact below_put (VB.out _ GR.out) (Nat.le_trans Vfacts.out.2.1.size HD.out) HK.out _
end Go.Proofs.Ytbhlddfjfcmncaa
