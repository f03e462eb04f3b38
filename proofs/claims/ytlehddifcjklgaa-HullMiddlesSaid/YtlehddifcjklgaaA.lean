import Derived.Test.YtlehddifcjklgaaRows
import Derived.Test.YtlehddifcjklgaaPu
import Derived.Maps.OwnIn
import Derived.Maps.AppendAt
import Derived.RangeFuncNested
import Derived.RangeFuncBound
import Derived.RangeFuncCalls
import Derived.RangeFuncLeaves
import Derived.Shelf.Abstract
import Derived.Shelf.RegionOpen
import Derived.WalkKit
import Derived.OwnWalkIn
import Derived.TacticsInMore
import Derived.LoopNIn
import Derived.LoopIn
import Derived.WalkSpells
import Derived.WalkLawsBesides
import Derived.BigQuiet
import Derived.Deep.QuietTactic
import Derived.Lib.Hide
import Derived.Deep.RegionHeld3
import Derived.StillTailTactics
import Derived.Deep.LoopGhost
namespace Go.Proofs.Ytlehddifcjklgaa
open Go.RowKit Go.Shelf
attribute [local go_sem] Oper.semAt_some
theorem i64_of (x : Int) (h : -4611686018427387904 ≤ x) (h' : x ≤ 4611686018427387903) : IntKind.i64.wrap x = x :=
  IntWalk.i64_in _ (by omega)
theorem i64_bd {x B : Int} (h : Bd B x) (hB : B ≤ 4611686018427387903) : IntKind.i64.wrap x = x := by
  unfold Bd at h; exact i64_of x (by omega) (by omega)
theorem ret_bool {a b : Bool} (h : a = b) : Ending.returned (.bool a) = .returned (.bool b) := by rw [h]
theorem ret_int {k : IntKind} {a b : Int} (h : a = b) : Ending.returned (.int k a) = .returned (.int k b) := by rw [h]
theorem drewN_drewN (w : World) (a b : Nat) : (w.drewN a).drewN b = w.drewN (a + b) := by
  unfold World.drewN; simp [Nat.add_assoc]
theorem drew_drewN (w : World) (a : Nat) : (w.drewN a).drew = w.drewN (a + 1) := by
  unfold World.drewN World.drew; simp [Nat.add_assoc]
theorem below_at {B : Nat} {w w' : World} (hb : Below B w w') {b o : Nat} {v : Value} (hg : b < B) (h : w.cell? ⟨b, o, none⟩ = some v) : w'.cell? ⟨b, o, none⟩ = some v := (hb.cell (p := ⟨b, o, none⟩) hg).trans h
theorem Below.andThen {B : Nat} {w W W' : World} (h : Below B w W) (h' : Below W.heap.size W W') (hB : B ≤ w.heap.size) : Below B w W' :=
  h.trans (h'.mono (Nat.le_trans hB h.size))
theorem Below.al {B : Nat} {w W : World} (h : Below B w W) (hB : B ≤ w.heap.size) (o : Obj) : Below B w (W.alloc o) := h.alloc (Nat.le_trans hB h.size) _
theorem cell_al (w : World) (cs : Array Value) (t : TypeId) (b o : Nat) : (w.alloc (.cells cs t)).cell? ⟨b, o, none⟩ = if b = w.heap.size then cs[o]? else w.cell? ⟨b, o, none⟩ := by
  by_cases h : b = w.heap.size
  · subst h; rw [if_pos rfl, cell_of_row _ _ _ cs t (0, 0) (heap_alloc_new w _)]
  · rw [if_neg h]
    exact World.cell?_of_block (w := w) (a := ⟨b, o, none⟩) (by show (w.heap.push _)[b]? = _; rw [Array.getElem?_push, if_neg h])
theorem frozen_al (w : World) (cs : Array Value) (t : TypeId) (b o : Nat) : (w.alloc (.cells cs t)).frozen? ⟨b, o, none⟩ = if b = w.heap.size then false else w.frozen? ⟨b, o, none⟩ := by
  by_cases h : b = w.heap.size
  · subst h; rw [if_pos rfl, frozen_of_row _ _ _ cs t (heap_alloc_new w _)]
  · rw [if_neg h]
    exact World.frozen?_of_block (w := w) (a := ⟨b, o, none⟩) (by show (w.heap.push _)[b]? = _; rw [Array.getElem?_push, if_neg h])
theorem size_al (w : World) (o : Obj) : (w.alloc o).heap.size = w.heap.size + 1 := by simp

/-- block g is a row of cells of the element type E -/
def Row (w : World) (g : Nat) (E : TypeId) (vs : List Value) : Prop := w.heap[g]? = some (.cells vs.toArray E (0, 0))
theorem Row.cell {w : World} {g : Nat} {E : TypeId} {vs : List Value} (h : Row w g E vs) (i : Nat) : w.cell? ⟨g, i, none⟩ = vs[i]? := by
  rw [cell_of_row w g i _ _ _ h]; simp
theorem Row.lt {w : World} {g : Nat} {E : TypeId} {vs : List Value} (h : Row w g E vs) : g < w.heap.size :=
  (Array.getElem?_eq_some_iff.1 h).1
theorem Row.below {B : Nat} {w w' : World} {g : Nat} {E : TypeId} {vs : List Value} (h : Row w g E vs) (hb : Below B w w') (hg : g < B) : Row w' g E vs := by
  unfold Row; rw [hb.block g hg]; exact h
theorem Row.new (w : World) (E : TypeId) (vs : List Value) : Row (w.alloc (.cells vs.toArray E)) w.heap.size E vs :=
  heap_alloc_new w _

def encI (x : Int) : Value := .int .i64 x
def encPt (p : Pt) : Value := .agg #[.int .i64 p.1, .int .i64 p.2]
/-- the numbers of zs lie at block b from offset o on -/
structure IntsAt (w : World) (b o : Nat) (zs : List Int) : Prop where
  lt : zs = [] ∨ b < w.heap.size
  at_ : ∀ i (h : i < zs.length), w.cell? ⟨b, o + i, none⟩ = some (.int .i64 zs[i])
theorem IntsAt.below {B : Nat} {w w' : World} {b o : Nat} {zs : List Int} (h : IntsAt w b o zs) (hb : Below B w w') (hB : b < B) : IntsAt w' b o zs :=
  ⟨h.lt.imp id (fun x => Nat.lt_of_lt_of_le x hb.size), fun i hi => below_at hb hB (h.at_ i hi)⟩

set_option maxHeartbeats 400000 in
theorem gcd64_any (a b : Int) (w : World) (ha : Bd 4000000000000000000 a) (hb : Bd 4000000000000000000 b) :
    Calls Try.prog 102 #[.int .i64 a, .int .i64 b] w fun e w' => e = .returned (.int .i64 (gcdI a b)) ∧ ∃ n, w' = w.drewN n := by
  go_enter Try.func102, Try.ntmps102
  go_wp2
  go_loopw [0, 1] (fun x y wr => ∃ p q : Int, Bd 4000000000000000000 p ∧ Bd 4000000000000000000 q ∧ Hid (Int.gcd p q = Int.gcd a b) ∧ x = .int .i64 p ∧ y = .int .i64 q ∧ ∃ n, wr = w.drewN n) (fun _ y _ => (intOf y).natAbs)
  case atStart => exact ⟨a, b, ha, hb, Lib.hid rfl, rfl, rfl, 0, rfl⟩
  case round =>
    obtain ⟨p, q, hp, hq, hg, rfl, rfl, n, rfl⟩ := hrel
    by_cases hz : q = 0
    · subst hz
      have e1 : IntKind.i64.wrap (-p) = -p := i64_bd hp.neg (by omega)
      have fin : gcdI a b = if p < -p then -p else p := by
        unfold gcdI
        rw [← hg.out]; simp; split <;> omega
      have Fin := Lib.hid fin
      clear fin hg
      go_wp2
      all_goals
        go_ret
        refine ⟨ret_int ?_, n, rfl⟩
        rw [Fin.out]
        split <;> omega
    · have hb1 : (q != 0) = true := by simp; omega
      have e2 : ¬ (q = 0) := by omega
      have hm : (p.tmod q).natAbs < q.natAbs := by
        rw [Int.natAbs_tmod]; exact Nat.mod_lt _ (by omega)
      have hg2 : Int.gcd q (p.tmod q) = Int.gcd a b := by
        rw [← hg.out]; unfold Int.gcd; rw [Int.natAbs_tmod, Nat.gcd_comm p.natAbs, Nat.gcd_rec q.natAbs p.natAbs, Nat.gcd_comm]
      have hbq : Bd 4000000000000000000 (p.tmod q) := by unfold Bd at *; omega
      have HG := Lib.hid hg2
      have HM := Lib.hid hm
      clear hg2 hm hg
      go_wp2
      go_quiet (fail)
      go_wp2
      go_roundw
      case rel => exact ⟨q, _, hq, hbq, HG, rfl, rfl, _, drewN_drewN _ _ _⟩
      case measure => simp only [intOf]; exact HM.out

set_option maxHeartbeats 400000 in
theorem gcd_any (a b : Int) (w : World) (ha : Bd 4000000000000000000 a) (hb : Bd 4000000000000000000 b) :
    Calls Try.prog 107 #[.int .i64 a, .int .i64 b] w fun e w' => e = .returned (.int .i64 (gcdI a b)) ∧ ∃ n, w' = w.drewN n := by
  go_enter Try.func107, Try.ntmps107
  go_wp2
  go_loopw [0, 1] (fun x y wr => ∃ p q : Int, Bd 4000000000000000000 p ∧ Bd 4000000000000000000 q ∧ Hid (Int.gcd p q = Int.gcd a b) ∧ x = .int .i64 p ∧ y = .int .i64 q ∧ ∃ n, wr = w.drewN n) (fun _ y _ => (intOf y).natAbs)
  case atStart => exact ⟨a, b, ha, hb, Lib.hid rfl, rfl, rfl, 0, rfl⟩
  case round =>
    obtain ⟨p, q, hp, hq, hg, rfl, rfl, n, rfl⟩ := hrel
    by_cases hz : q = 0
    · subst hz
      have e1 : IntKind.i64.wrap (-p) = -p := i64_bd hp.neg (by omega)
      have fin : gcdI a b = if p < -p then -p else p := by
        unfold gcdI
        rw [← hg.out]; simp; split <;> omega
      have Fin := Lib.hid fin
      clear fin hg
      go_wp2
      all_goals
        go_ret
        refine ⟨ret_int ?_, n, rfl⟩
        rw [Fin.out]
        split <;> omega
    · have hb1 : (q != 0) = true := by simp; omega
      have e2 : ¬ (q = 0) := by omega
      have hm : (p.tmod q).natAbs < q.natAbs := by
        rw [Int.natAbs_tmod]; exact Nat.mod_lt _ (by omega)
      have hg2 : Int.gcd q (p.tmod q) = Int.gcd a b := by
        rw [← hg.out]; unfold Int.gcd; rw [Int.natAbs_tmod, Nat.gcd_comm p.natAbs, Nat.gcd_rec q.natAbs p.natAbs, Nat.gcd_comm]
      have hbq : Bd 4000000000000000000 (p.tmod q) := by unfold Bd at *; omega
      have HG := Lib.hid hg2
      have HM := Lib.hid hm
      clear hg2 hm hg
      go_wp2
      go_quiet (fail)
      go_wp2
      go_roundw
      case rel => exact ⟨q, _, hq, hbq, HG, rfl, rfl, _, drewN_drewN _ _ _⟩
      case measure => simp only [intOf]; exact HM.out


theorem IntsAt.drewN {w : World} {b o : Nat} {zs : List Int} (h : IntsAt w b o zs) (n : Nat) : IntsAt (w.drewN n) b o zs := ⟨h.lt, h.at_⟩
/-- a list's sum stays within -B .. B, whatever beginning of it is taken -/
def SumBd (B : Int) (zs : List Int) : Prop := ∀ k, Bd B (zs.take k).sum

set_option maxHeartbeats 400000 in
theorem sum_any (zs : List Int) (b o c : Nat) (w : World) (hz : IntsAt w b o zs) (hl : zs.length ≤ 1000) (hB : SumBd 4000000000000000000 zs) (h0 : zs.length ≠ 0) :
    Calls Try.prog 66 #[.slice (some ⟨b, o, none⟩) zs.length c] w fun e w' => e = .returned (.int .i64 zs.sum) ∧ w' = w := by
  go_enter Try.func66, Try.ntmps66
  go_wp2
  have HZ := Lib.hid hz
  have HB := Lib.hid hB
  clear hz hB
  go_loopw [3, 8] (fun s i wr => ∃ k : Nat, k ≤ zs.length ∧ s = .int .i64 (zs.take k).sum ∧ i = .int .i64 (k : Int) ∧ wr = w) (fun _ i _ => zs.length - (intOf i).toNat)
  case atStart => exact ⟨0, by omega, rfl, rfl, rfl⟩
  case round =>
    obtain ⟨k, hk, rfl, rfl, rfl⟩ := hrel
    by_cases hlt : k < zs.length
    · have hd : decide ((k : Int) < (zs.length : Int)) = true := by simp; omega
      have hc := HZ.out.at_ k hlt
      have hs : (zs.take (k + 1)).sum = (zs.take k).sum + zs[k] := by
        rw [List.take_succ_eq_append_getElem hlt, List.sum_append]; simp
      have e1 : IntKind.i64.wrap ((zs.take k).sum + zs[k]) = (zs.take k).sum + zs[k] := by
        rw [← hs]; exact i64_bd (HB.out _) (by omega)
      have HS := Lib.hid hs
      clear hs
      generalize zs[k] = z at *
      generalize (zs.take k).sum = s at *
      go_wp2
      go_roundw
      case rel => exact ⟨k + 1, by omega, by rw [HS.out], rfl, trivial⟩
      case measure => simp [intOf]; omega
    · have hd : decide ((k : Int) < (zs.length : Int)) = false := by simp; omega
      have hk2 : k = zs.length := by omega
      subst hk2
      go_wp2
      go_ret
      exact ⟨ret_int (by simp), rfl⟩

theorem sum_two (x y : Int) (b : Nat) (w : World) (hx : w.cell? ⟨b, 0, none⟩ = some (.int .i64 x)) (hy : w.cell? ⟨b, 1, none⟩ = some (.int .i64 y)) (hb : b < w.heap.size)
    (bx : Bd 1000000000000000000 x) (bxy : Bd 1000000000000000000 y) :
    Calls Try.prog 66 #[.slice (some ⟨b, 0, none⟩) 2 2] w fun e w' => e = .returned (.int .i64 (x + y)) ∧ w' = w := by
  have h := sum_any [x, y] b 0 2 w ⟨.inr hb, fun i hi => by
    rcases i with _ | _ | i
    · simpa using hx
    · simpa using hy
    · simp at hi; omega⟩ (by simp) (fun k => by
      rcases k with _ | _ | k
      · simp [Bd]
      · simpa using bx.mono (by omega)
      · have e : List.take (k + 1 + 1) [x, y] = [x, y] := by simp
        rw [e]
        have := bx.add bxy
        simpa [List.sum] using this.mono (by omega)) (by simp)
  simpa using h

set_option maxHeartbeats 400000 in
theorem cross_any (a1 a2 b1 b2 : Int) (w : World) (h1 : Bd 100000000 a1) (h2 : Bd 100000000 a2) (h3 : Bd 100000000 b1) (h4 : Bd 100000000 b2) :
    Calls Try.prog 65 #[.agg #[.int .i64 a1, .int .i64 a2], .agg #[.int .i64 b1, .int .i64 b2]] w fun e w' => e = .returned (.int .i64 (crs (a1, a2) (b1, b2))) ∧ Below w.heap.size w w' := by
  have m1 := h1.mul h4
  have m2 := h2.neg.mul h3
  have e1 := i64_bd m1 (by omega)
  have e2 := i64_bd h2.neg (by omega)
  have e3 := i64_bd m2 (by omega)
  have M1 := Lib.hid m1
  have M2 := Lib.hid m2
  clear m1 m2 h1 h2 h3 h4
  go_enter Try.func65, Try.ntmps65
  go_wp2_with (go_at_call 66; refine (sum_two _ _ _ _ (by simp [cell_al]) (by simp [cell_al]) (by simp) (M1.out.mono (by omega)) (M2.out.mono (by omega))).mono ?_; rintro e w1 ⟨rfl, rfl⟩)
  go_ret
  exact ⟨rfl, (((Below.refl w.heap.size w).alloc (Nat.le_refl _) _).alloc (by simp) _).alloc (by simp; omega) _⟩

set_option maxHeartbeats 400000 in
theorem dot_any (a1 a2 b1 b2 : Int) (w : World) (h1 : Bd 100000000 a1) (h2 : Bd 100000000 a2) (h3 : Bd 100000000 b1) (h4 : Bd 100000000 b2) :
    Calls Try.prog 72 #[.agg #[.int .i64 a1, .int .i64 a2], .agg #[.int .i64 b1, .int .i64 b2]] w fun e w' => e = .returned (.int .i64 (dt (a1, a2) (b1, b2))) ∧ Below w.heap.size w w' := by
  have m1 := h1.mul h3
  have m2 := h2.mul h4
  have e1 := i64_bd m1 (by omega)
  have e3 := i64_bd m2 (by omega)
  have M1 := Lib.hid m1
  have M2 := Lib.hid m2
  clear m1 m2 h1 h2 h3 h4
  go_enter Try.func72, Try.ntmps72
  go_wp2_with (go_at_call 66; refine (sum_two _ _ _ _ (by simp [cell_al]) (by simp [cell_al]) (by simp) (M1.out.mono (by omega)) (M2.out.mono (by omega))).mono ?_; rintro e w1 ⟨rfl, rfl⟩)
  go_ret
  exact ⟨rfl, (((Below.refl w.heap.size w).alloc (Nat.le_refl _) _).alloc (by simp) _).alloc (by simp; omega) _⟩

set_option maxHeartbeats 400000 in
theorem minus_any (a1 a2 b1 b2 : Int) (w : World) (h1 : Bd 100000000 a1) (h2 : Bd 100000000 a2) (h3 : Bd 100000000 b1) (h4 : Bd 100000000 b2) :
    Calls Try.prog 73 #[.agg #[.int .i64 a1, .int .i64 a2], .agg #[.int .i64 b1, .int .i64 b2]] w fun e w' => e = .returned (.agg #[.int .i64 (a1 - b1), .int .i64 (a2 - b2)]) ∧ Below w.heap.size w w' := by
  have e1 := i64_bd (h1.sub h3) (by omega)
  have e3 := i64_bd (h2.sub h4) (by omega)
  clear h1 h2 h3 h4
  go_enter Try.func73, Try.ntmps73
  go_wp2_with fail
  refine bodyPost_ret (v := .agg #[.int .i64 (a1 - b1), .int .i64 (a2 - b2)]) (by simp [results, Try.results73, go_sem]) rfl ⟨rfl, ?_⟩
  exact ((((Below.refl w.heap.size w).alloc (Nat.le_refl _) _).alloc (by simp) _).alloc (by simp; omega) _)

/-- a world that holds all that w holds -/
structure Kl (w : World) where
  W : World
  h : Below w.heap.size w W
theorem wp_region_below {P : Program} {id : Nat} {Q : Exit → Act → World → Prop} {a : Act} {w : World} {l : List Oper} (hm : P.follows .mixedOrders = true) (hB : Region.lexB .any l.toArray = true)
    (h : wpQuiet P l.toArray (fun w' => ∃ n : Kl w, w' = n.W) (fun a' => ∀ w', (∃ n : Kl w, w' = n.W) → Q .normal a' w') l a) : (Code.region id l.toArray true).wp P Q a w :=
  wp_region_quiet (C := fun w' => ∃ n : Kl w, w' = n.W) hm hB ⟨⟨w.drew, (Below.refl _ _).drew⟩, rfl⟩ (by simpa using h)
theorem Kl.call {P : Program} {f : FuncId} {args : Array Value} {w : World} {x : Kl w} {v : Value}
    (h : Calls P f args x.W fun e w' => e = .returned v ∧ Below x.W.heap.size x.W w') : Calls P f args x.W fun e w'' => e = .returned v ∧ ∃ n : Kl w, w'' = n.W :=
  h.mono fun _ w' ⟨he, hb⟩ => ⟨he, ⟨w', Below.andThen x.h hb (Nat.le_refl _)⟩, rfl⟩
theorem Kl.cell {w : World} {b o : Nat} {v : Value} (hb : b < w.heap.size) (h : w.cell? ⟨b, o, none⟩ = some v) (x : Kl w) : x.W.cell? ⟨b, o, none⟩ = some v := below_at x.h hb h
instance (w : World) : Nonempty (Kl w) := ⟨⟨w, Below.refl _ _⟩⟩

set_option maxHeartbeats 400000 in
theorem turnsLeft_any (a1 a2 b1 b2 c1 c2 : Int) (w : World) (h1 : Bd 1000 a1) (h2 : Bd 1000 a2) (h3 : Bd 1000 b1) (h4 : Bd 1000 b2) (h5 : Bd 1000 c1) (h6 : Bd 1000 c2) :
    Calls Try.prog 98 #[.agg #[.int .i64 a1, .int .i64 a2], .agg #[.int .i64 b1, .int .i64 b2], .agg #[.int .i64 c1, .int .i64 c2]] w fun e w' => e = .returned (.bool (lft (a1, a2) (b1, b2) (c1, c2))) ∧ Below w.heap.size w w' := by
  have j1 := Lib.hid (h1.mono (C := 100000000) (by omega))
  have j2 := Lib.hid (h2.mono (C := 100000000) (by omega))
  have j3 := Lib.hid (h3.mono (C := 100000000) (by omega))
  have j4 := Lib.hid (h4.mono (C := 100000000) (by omega))
  have j5 := Lib.hid (h5.mono (C := 100000000) (by omega))
  have j6 := Lib.hid (h6.mono (C := 100000000) (by omega))
  have k1 := Lib.hid ((h3.sub h1).mono (C := 100000000) (by omega))
  have k2 := Lib.hid ((h4.sub h2).mono (C := 100000000) (by omega))
  have k3 := Lib.hid ((h5.sub h1).mono (C := 100000000) (by omega))
  have k4 := Lib.hid ((h6.sub h2).mono (C := 100000000) (by omega))
  have fin : lft (a1, a2) (b1, b2) (c1, c2) = decide (0 < crs (b1 - a1, b2 - a2) (c1 - a1, c2 - a2)) := rfl
  have Fin := Lib.hid fin
  clear h1 h2 h3 h4 h5 h6 fin
  go_enter Try.func98, Try.ntmps98
  go_wp2_with fail
  obtain ⟨W0, hW0⟩ : ∃ W0, W0 = ((w.alloc (.cells #[.int .i64 a1, .int .i64 a2] 58)).alloc (.cells #[.int .i64 b1, .int .i64 b2] 58)).alloc (.cells #[.int .i64 c1, .int .i64 c2] 58) := ⟨_, rfl⟩
  have B0 : Below w.heap.size w W0 := by rw [hW0]; exact ((((Below.refl w.heap.size w).alloc (Nat.le_refl _) _).alloc (by simp) _).alloc (by simp; omega) _)
  have hsz : W0.heap.size = w.heap.size + 3 := by rw [hW0]; simp
  have x0 := Kl.cell (w := W0) (b := w.heap.size) (o := 0) (v := .int .i64 a1) (by omega) (by rw [hW0]; simp [cell_al] <;> omega)
  have x1 := Kl.cell (w := W0) (b := w.heap.size) (o := 1) (v := .int .i64 a2) (by omega) (by rw [hW0]; simp [cell_al] <;> omega)
  have x2 := Kl.cell (w := W0) (b := w.heap.size + 1) (o := 0) (v := .int .i64 b1) (by omega) (by rw [hW0]; simp [cell_al] <;> omega)
  have x3 := Kl.cell (w := W0) (b := w.heap.size + 1) (o := 1) (v := .int .i64 b2) (by omega) (by rw [hW0]; simp [cell_al] <;> omega)
  have x4 := Kl.cell (w := W0) (b := w.heap.size + 2) (o := 0) (v := .int .i64 c1) (by omega) (by rw [hW0]; simp [cell_al] <;> omega)
  have x5 := Kl.cell (w := W0) (b := w.heap.size + 2) (o := 1) (v := .int .i64 c2) (by omega) (by rw [hW0]; simp [cell_al] <;> omega)
  rw [← hW0]
  have BB := Lib.hid B0
  clear hW0 hsz B0
  refine wp_region_below (by kernel_rfl) (by kernel_rfl) ?_
  repeat (go_big_quiet_step (first | exact Kl.call (minus_any _ _ _ _ _ (by first | exact j1.out | exact j3.out | exact j5.out) (by first | exact j2.out | exact j4.out | exact j6.out) j1.out j2.out) | exact Kl.call (cross_any _ _ _ _ _ k1.out k2.out k3.out k4.out)))
  refine wpQuiet_nil ?_
  rintro _ ⟨wq, rfl⟩
  go_wp2_with fail
  go_ret
  exact ⟨ret_bool (by rw [Fin.out]), Below.andThen BB.out wq.h (Nat.le_refl _)⟩
end Go.Proofs.Ytlehddifcjklgaa
