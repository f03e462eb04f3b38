import Derived.Test.YtlehddifcjklgaaRows
import Derived.Maps.OwnIn
import Derived.Maps.AppendAt
import Derived.RangeFuncNested
import Derived.RangeFuncBound
import Derived.RangeFuncCalls
import Derived.RangeFuncLeaves
import Derived.Shelf.Abstract
import Derived.Shelf.RegionOpen
import Derived.WalkKit
import Derived.OwnWalkIn
import Derived.TacticsInMore
import Derived.LoopNIn
import Derived.LoopIn
import Derived.WalkSpells
import Derived.WalkLawsBesides
import Derived.BigQuiet
import Derived.Deep.QuietTactic
import Derived.Lib.Hide
import Derived.Deep.RegionHeld3
import Derived.StillTailTactics
import Derived.Deep.LoopGhost
import Derived.Maps.OwnSet
import Derived.Lib.IndexAny
import Derived.Sort.QuietThIn
import Derived.Sort.QuietTacIn
import Derived.Sort.BigQuietIn
/-
  Plain words of what package hull says of points, sides and fractions: no program.
-/
namespace Go.Proofs.Ytlehddifcjklgaa
abbrev Pt := Int × Int
def inR (p : Pt) : Bool := decide (-20 ≤ p.1) && decide (p.1 ≤ 20) && (decide (-20 ≤ p.2) && decide (p.2 ≤ 20))
def areP (ps : List Pt) : Bool := decide (3 ≤ ps.length) && decide (ps.length ≤ 12) && ps.all inR
def crs (a b : Pt) : Int := a.1 * b.2 + (-a.2) * b.1
def dt (a b : Pt) : Int := a.1 * b.1 + a.2 * b.2
def mn (a b : Pt) : Pt := (a.1 - b.1, a.2 - b.2)
def lft (f a t : Pt) : Bool := decide (0 < crs (mn a f) (mn t f))
def ptAt (ps : List Pt) (i : Nat) : Pt := ps.getD i (0, 0)
def nx (ps : List Pt) (i : Nat) : Pt := ptAt ps ((i + 1) % ps.length)
def pv (ps : List Pt) (i : Nat) : Pt := ptAt ps ((i + ps.length - 1) % ps.length)
def isSide (ps : List Pt) (a b : Pt) : Bool := decide ((ps.countP (lft a b) : Int) = (ps.length : Int) - 2)
def sideAt (ps : List Pt) (i : Nat) : Bool := isSide ps (ptAt ps i) (nx ps i)
def chk (ps : List Pt) : Bool := areP ps && (List.range ps.length).all (sideAt ps)
def crsAt (ps : List Pt) (i : Nat) : Int := crs (ptAt ps i) (nx ps i)
def area (ps : List Pt) : Int := ((List.range ps.length).map (crsAt ps)).sum
def xAt (ps : List Pt) (i : Nat) : Int := crsAt ps i * ((ptAt ps i).1 + (nx ps i).1)
def yAt (ps : List Pt) (i : Nat) : Int := crsAt ps i * ((ptAt ps i).2 + (nx ps i).2)
def xSum (ps : List Pt) : Int := ((List.range ps.length).map (xAt ps)).sum
def ySum (ps : List Pt) : Int := ((List.range ps.length).map (yAt ps)).sum
def gcdI (a b : Int) : Int := (Int.gcd a b : Int)
def mid (ps : List Pt) : Int × Int × Int :=
  let x := xSum ps; let y := ySum ps; let d := 3 * area ps
  let g := gcdI (gcdI x y) d
  (x.tdiv g, y.tdiv g, d.tdiv g)
def frac (n d : Int) : Int × Int := (n.tdiv (gcdI n d), d.tdiv (gcdI n d))
def lessF (f g : Int × Int) : Bool := decide (f.1 * g.2 < g.1 * f.2)
def withinF (f low high : Int × Int) : Bool := !lessF f low && !lessF high f
def alongS (ps : List Pt) (s : Nat) : Pt := mn (nx ps s) (ptAt ps s)
def inw (m : Int × Int × Int) (c : Pt) : Pt := (m.1 - m.2.2 * c.1, m.2.1 - m.2.2 * c.2)
def foot (ps : List Pt) (m : Int × Int × Int) (s : Nat) : Int × Int :=
  frac (dt (inw m (ptAt ps s)) (alongS ps s)) (m.2.2 * dt (alongS ps s) (alongS ps s))
def heightH (ps : List Pt) (m : Int × Int × Int) (s : Nat) : Int := crs (alongS ps s) (inw m (ptAt ps s))
def height (ps : List Pt) (m : Int × Int × Int) (s : Nat) : Int × Int :=
  frac (heightH ps m s * heightH ps m s) (dt (alongS ps s) (alongS ps s))
def restB (ps : List Pt) (m : Int × Int × Int) (s : Nat) : Bool := withinF (foot ps m s) (0, 1) (1, 1)
def firmB (ps : List Pt) (m : Int × Int × Int) (s : Nat) : Bool := restB ps m s && decide (foot ps m s ≠ (0, 1)) && decide (foot ps m s ≠ (1, 1))
def leanF (ps : List Pt) (m : Int × Int × Int) (s : Nat) : Int × Int :=
  frac (height ps m s).1 ((height ps m s).2 * m.2.2 * m.2.2)
def boxP : List Pt := [(0, 0), (4, 0), (4, 2), (0, 2)]
def thinP : List Pt := [(0, 0), (9, 0), (1, 1)]
/-- |x| at most B -/
def Bd (B x : Int) : Prop := -B ≤ x ∧ x ≤ B
theorem Bd.mono {B C x : Int} (h : Bd B x) (hc : B ≤ C) : Bd C x := ⟨by have := h.1; omega, by have := h.2; omega⟩
theorem Bd.add {B C x y : Int} (h : Bd B x) (k : Bd C y) : Bd (B + C) (x + y) := by
  unfold Bd at *; omega
theorem Bd.sub {B C x y : Int} (h : Bd B x) (k : Bd C y) : Bd (B + C) (x - y) := by
  unfold Bd at *; omega
theorem Bd.neg {B x : Int} (h : Bd B x) : Bd B (-x) := by
  unfold Bd at *; omega
theorem Bd.abs {B x : Int} : Bd B x ↔ (x.natAbs : Int) ≤ B := by unfold Bd; omega
theorem Bd.mul {B C x y : Int} (h : Bd B x) (k : Bd C y) : Bd (B * C) (x * y) := by
  rw [Bd.abs] at *
  rw [Int.natAbs_mul, Int.natCast_mul]
  exact Int.mul_le_mul h k (by omega) (by omega)
theorem Bd.tdiv {B x g : Int} (h : Bd B x) : Bd B (x.tdiv g) := by
  rw [Bd.abs] at *
  have : (x.tdiv g).natAbs ≤ x.natAbs := by
    rw [Int.natAbs_tdiv]; exact Nat.div_le_self _ _
  omega
end Go.Proofs.Ytlehddifcjklgaa
namespace Go.Proofs.Ytlehddifcjklgaa
open Go.RowKit Go.Shelf
attribute [local go_sem] Oper.semAt_some
theorem i64_of (x : Int) (h : -4611686018427387904 ≤ x) (h' : x ≤ 4611686018427387903) : IntKind.i64.wrap x = x :=
  IntWalk.i64_in _ (by omega)
theorem i64_bd {x B : Int} (h : Bd B x) (hB : B ≤ 4611686018427387903) : IntKind.i64.wrap x = x := by
  unfold Bd at h; exact i64_of x (by omega) (by omega)
theorem ret_bool {a b : Bool} (h : a = b) : Ending.returned (.bool a) = .returned (.bool b) := by rw [h]
theorem ret_int {k : IntKind} {a b : Int} (h : a = b) : Ending.returned (.int k a) = .returned (.int k b) := by rw [h]
theorem drewN_drewN (w : World) (a b : Nat) : (w.drewN a).drewN b = w.drewN (a + b) := by
  unfold World.drewN; simp [Nat.add_assoc]
theorem drew_drewN (w : World) (a : Nat) : (w.drewN a).drew = w.drewN (a + 1) := by
  unfold World.drewN World.drew; simp [Nat.add_assoc]
theorem below_at {B : Nat} {w w' : World} (hb : Below B w w') {b o : Nat} {v : Value} (hg : b < B) (h : w.cell? ⟨b, o, none⟩ = some v) : w'.cell? ⟨b, o, none⟩ = some v := (hb.cell (p := ⟨b, o, none⟩) hg).trans h
theorem Below.andThen {B : Nat} {w W W' : World} (h : Below B w W) (h' : Below W.heap.size W W') (hB : B ≤ w.heap.size) : Below B w W' :=
  h.trans (h'.mono (Nat.le_trans hB h.size))
theorem Below.al {B : Nat} {w W : World} (h : Below B w W) (hB : B ≤ w.heap.size) (o : Obj) : Below B w (W.alloc o) := h.alloc (Nat.le_trans hB h.size) _
theorem cell_al (w : World) (cs : Array Value) (t : TypeId) (b o : Nat) : (w.alloc (.cells cs t)).cell? ⟨b, o, none⟩ = if b = w.heap.size then cs[o]? else w.cell? ⟨b, o, none⟩ := by
  by_cases h : b = w.heap.size
  · subst h; rw [if_pos rfl, cell_of_row _ _ _ cs t (0, 0) (heap_alloc_new w _)]
  · rw [if_neg h]
    exact World.cell?_of_block (w := w) (a := ⟨b, o, none⟩) (by show (w.heap.push _)[b]? = _; rw [Array.getElem?_push, if_neg h])
theorem frozen_al (w : World) (cs : Array Value) (t : TypeId) (b o : Nat) : (w.alloc (.cells cs t)).frozen? ⟨b, o, none⟩ = if b = w.heap.size then false else w.frozen? ⟨b, o, none⟩ := by
  by_cases h : b = w.heap.size
  · subst h; rw [if_pos rfl, frozen_of_row _ _ _ cs t (heap_alloc_new w _)]
  · rw [if_neg h]
    exact World.frozen?_of_block (w := w) (a := ⟨b, o, none⟩) (by show (w.heap.push _)[b]? = _; rw [Array.getElem?_push, if_neg h])
theorem size_al (w : World) (o : Obj) : (w.alloc o).heap.size = w.heap.size + 1 := by simp

/-- block g is a row of cells of the element type E -/
def Row (w : World) (g : Nat) (E : TypeId) (vs : List Value) : Prop := w.heap[g]? = some (.cells vs.toArray E (0, 0))
theorem Row.cell {w : World} {g : Nat} {E : TypeId} {vs : List Value} (h : Row w g E vs) (i : Nat) : w.cell? ⟨g, i, none⟩ = vs[i]? := by
  rw [cell_of_row w g i _ _ _ h]; simp
theorem Row.lt {w : World} {g : Nat} {E : TypeId} {vs : List Value} (h : Row w g E vs) : g < w.heap.size :=
  (Array.getElem?_eq_some_iff.1 h).1
theorem Row.below {B : Nat} {w w' : World} {g : Nat} {E : TypeId} {vs : List Value} (h : Row w g E vs) (hb : Below B w w') (hg : g < B) : Row w' g E vs := by
  unfold Row; rw [hb.block g hg]; exact h
theorem Row.new (w : World) (E : TypeId) (vs : List Value) : Row (w.alloc (.cells vs.toArray E)) w.heap.size E vs :=
  heap_alloc_new w _

def encI (x : Int) : Value := .int .i64 x
def encPt (p : Pt) : Value := .agg #[.int .i64 p.1, .int .i64 p.2]
/-- the numbers of zs lie at block b from offset o on -/
structure IntsAt (w : World) (b o : Nat) (zs : List Int) : Prop where
  lt : zs = [] ∨ b < w.heap.size
  at_ : ∀ i (h : i < zs.length), w.cell? ⟨b, o + i, none⟩ = some (.int .i64 zs[i])
theorem IntsAt.below {B : Nat} {w w' : World} {b o : Nat} {zs : List Int} (h : IntsAt w b o zs) (hb : Below B w w') (hB : b < B) : IntsAt w' b o zs :=
  ⟨h.lt.imp id (fun x => Nat.lt_of_lt_of_le x hb.size), fun i hi => below_at hb hB (h.at_ i hi)⟩

set_option maxHeartbeats 400000 in
theorem gcd64_any (a b : Int) (w : World) (ha : Bd 4000000000000000000 a) (hb : Bd 4000000000000000000 b) :
    Calls Try.prog 102 #[.int .i64 a, .int .i64 b] w fun e w' => e = .returned (.int .i64 (gcdI a b)) ∧ ∃ n, w' = w.drewN n := by
  go_enter Try.func102, Try.ntmps102
  go_wp2
  go_loopw [0, 1] (fun x y wr => ∃ p q : Int, Bd 4000000000000000000 p ∧ Bd 4000000000000000000 q ∧ Hid (Int.gcd p q = Int.gcd a b) ∧ x = .int .i64 p ∧ y = .int .i64 q ∧ ∃ n, wr = w.drewN n) (fun _ y _ => (intOf y).natAbs)
  case atStart => exact ⟨a, b, ha, hb, Lib.hid rfl, rfl, rfl, 0, rfl⟩
  case round =>
    obtain ⟨p, q, hp, hq, hg, rfl, rfl, n, rfl⟩ := hrel
    by_cases hz : q = 0
    · subst hz
      have e1 : IntKind.i64.wrap (-p) = -p := i64_bd hp.neg (by omega)
      have fin : gcdI a b = if p < -p then -p else p := by
        unfold gcdI
        rw [← hg.out]; simp; split <;> omega
      have Fin := Lib.hid fin
      clear fin hg
      go_wp2
      all_goals
        go_ret
        refine ⟨ret_int ?_, n, rfl⟩
        rw [Fin.out]
        split <;> omega
    · have hb1 : (q != 0) = true := by simp; omega
      have e2 : ¬ (q = 0) := by omega
      have hm : (p.tmod q).natAbs < q.natAbs := by
        rw [Int.natAbs_tmod]; exact Nat.mod_lt _ (by omega)
      have hg2 : Int.gcd q (p.tmod q) = Int.gcd a b := by
        rw [← hg.out]; unfold Int.gcd; rw [Int.natAbs_tmod, Nat.gcd_comm p.natAbs, Nat.gcd_rec q.natAbs p.natAbs, Nat.gcd_comm]
      have hbq : Bd 4000000000000000000 (p.tmod q) := by unfold Bd at *; omega
      have HG := Lib.hid hg2
      have HM := Lib.hid hm
      clear hg2 hm hg
      go_wp2
      go_quiet (fail)
      go_wp2
      go_roundw
      case rel => exact ⟨q, _, hq, hbq, HG, rfl, rfl, _, drewN_drewN _ _ _⟩
      case measure => simp only [intOf]; exact HM.out

set_option maxHeartbeats 400000 in
theorem gcd_any (a b : Int) (w : World) (ha : Bd 4000000000000000000 a) (hb : Bd 4000000000000000000 b) :
    Calls Try.prog 107 #[.int .i64 a, .int .i64 b] w fun e w' => e = .returned (.int .i64 (gcdI a b)) ∧ ∃ n, w' = w.drewN n := by
  go_enter Try.func107, Try.ntmps107
  go_wp2
  go_loopw [0, 1] (fun x y wr => ∃ p q : Int, Bd 4000000000000000000 p ∧ Bd 4000000000000000000 q ∧ Hid (Int.gcd p q = Int.gcd a b) ∧ x = .int .i64 p ∧ y = .int .i64 q ∧ ∃ n, wr = w.drewN n) (fun _ y _ => (intOf y).natAbs)
  case atStart => exact ⟨a, b, ha, hb, Lib.hid rfl, rfl, rfl, 0, rfl⟩
  case round =>
    obtain ⟨p, q, hp, hq, hg, rfl, rfl, n, rfl⟩ := hrel
    by_cases hz : q = 0
    · subst hz
      have e1 : IntKind.i64.wrap (-p) = -p := i64_bd hp.neg (by omega)
      have fin : gcdI a b = if p < -p then -p else p := by
        unfold gcdI
        rw [← hg.out]; simp; split <;> omega
      have Fin := Lib.hid fin
      clear fin hg
      go_wp2
      all_goals
        go_ret
        refine ⟨ret_int ?_, n, rfl⟩
        rw [Fin.out]
        split <;> omega
    · have hb1 : (q != 0) = true := by simp; omega
      have e2 : ¬ (q = 0) := by omega
      have hm : (p.tmod q).natAbs < q.natAbs := by
        rw [Int.natAbs_tmod]; exact Nat.mod_lt _ (by omega)
      have hg2 : Int.gcd q (p.tmod q) = Int.gcd a b := by
        rw [← hg.out]; unfold Int.gcd; rw [Int.natAbs_tmod, Nat.gcd_comm p.natAbs, Nat.gcd_rec q.natAbs p.natAbs, Nat.gcd_comm]
      have hbq : Bd 4000000000000000000 (p.tmod q) := by unfold Bd at *; omega
      have HG := Lib.hid hg2
      have HM := Lib.hid hm
      clear hg2 hm hg
      go_wp2
      go_quiet (fail)
      go_wp2
      go_roundw
      case rel => exact ⟨q, _, hq, hbq, HG, rfl, rfl, _, drewN_drewN _ _ _⟩
      case measure => simp only [intOf]; exact HM.out


theorem IntsAt.drewN {w : World} {b o : Nat} {zs : List Int} (h : IntsAt w b o zs) (n : Nat) : IntsAt (w.drewN n) b o zs := ⟨h.lt, h.at_⟩
/-- a list's sum stays within -B .. B, whatever beginning of it is taken -/
def SumBd (B : Int) (zs : List Int) : Prop := ∀ k, Bd B (zs.take k).sum

set_option maxHeartbeats 400000 in
theorem sum_any (zs : List Int) (b o c : Nat) (w : World) (hz : IntsAt w b o zs) (hl : zs.length ≤ 1000) (hB : SumBd 4000000000000000000 zs) (_h0 : zs.length ≠ 0) :
    Calls Try.prog 66 #[.slice (some ⟨b, o, none⟩) zs.length c] w fun e w' => e = .returned (.int .i64 zs.sum) ∧ w' = w := by
  go_enter Try.func66, Try.ntmps66
  go_wp2
  have HZ := Lib.hid hz
  have HB := Lib.hid hB
  clear hz hB
  go_loopw [3, 8] (fun s i wr => ∃ k : Nat, k ≤ zs.length ∧ s = .int .i64 (zs.take k).sum ∧ i = .int .i64 (k : Int) ∧ wr = w) (fun _ i _ => zs.length - (intOf i).toNat)
  case atStart => exact ⟨0, by omega, rfl, rfl, rfl⟩
  case round =>
    obtain ⟨k, hk, rfl, rfl, rfl⟩ := hrel
    by_cases hlt : k < zs.length
    · have hd : decide ((k : Int) < (zs.length : Int)) = true := by simp; omega
      have hc := HZ.out.at_ k hlt
      have hs : (zs.take (k + 1)).sum = (zs.take k).sum + zs[k] := by
        rw [List.take_succ_eq_append_getElem hlt, List.sum_append]; simp
      have e1 : IntKind.i64.wrap ((zs.take k).sum + zs[k]) = (zs.take k).sum + zs[k] := by
        rw [← hs]; exact i64_bd (HB.out _) (by omega)
      have HS := Lib.hid hs
      clear hs
      generalize zs[k] = z at *
      generalize (zs.take k).sum = s at *
      go_wp2
      go_roundw
      case rel => exact ⟨k + 1, by omega, by rw [HS.out], rfl, trivial⟩
      case measure => simp [intOf]; omega
    · have hd : decide ((k : Int) < (zs.length : Int)) = false := by simp; omega
      have hk2 : k = zs.length := by omega
      subst hk2
      go_wp2
      go_ret
      exact ⟨ret_int (by simp), rfl⟩

theorem sum_two (x y : Int) (b : Nat) (w : World) (hx : w.cell? ⟨b, 0, none⟩ = some (.int .i64 x)) (hy : w.cell? ⟨b, 1, none⟩ = some (.int .i64 y)) (hb : b < w.heap.size)
    (bx : Bd 1000000000000000000 x) (bxy : Bd 1000000000000000000 y) :
    Calls Try.prog 66 #[.slice (some ⟨b, 0, none⟩) 2 2] w fun e w' => e = .returned (.int .i64 (x + y)) ∧ w' = w := by
  have h := sum_any [x, y] b 0 2 w ⟨.inr hb, fun i hi => by
    rcases i with _ | _ | i
    · simpa using hx
    · simpa using hy
    · simp at hi; omega⟩ (by simp) (fun k => by
      rcases k with _ | _ | k
      · simp [Bd]
      · simpa using bx.mono (by omega)
      · have e : List.take (k + 1 + 1) [x, y] = [x, y] := by simp
        rw [e]
        have := bx.add bxy
        simpa [List.sum] using this.mono (by omega)) (by simp)
  simpa using h

set_option maxHeartbeats 400000 in
theorem cross_any (a1 a2 b1 b2 : Int) (w : World) (h1 : Bd 100000000 a1) (h2 : Bd 100000000 a2) (h3 : Bd 100000000 b1) (h4 : Bd 100000000 b2) :
    Calls Try.prog 65 #[.agg #[.int .i64 a1, .int .i64 a2], .agg #[.int .i64 b1, .int .i64 b2]] w fun e w' => e = .returned (.int .i64 (crs (a1, a2) (b1, b2))) ∧ Below w.heap.size w w' := by
  have m1 := h1.mul h4
  have m2 := h2.neg.mul h3
  have e1 := i64_bd m1 (by omega)
  have e2 := i64_bd h2.neg (by omega)
  have e3 := i64_bd m2 (by omega)
  have M1 := Lib.hid m1
  have M2 := Lib.hid m2
  clear m1 m2 h1 h2 h3 h4
  go_enter Try.func65, Try.ntmps65
  go_wp2_with (go_at_call 66; refine (sum_two _ _ _ _ (by simp [cell_al]) (by simp [cell_al]) (by simp) (M1.out.mono (by omega)) (M2.out.mono (by omega))).mono ?_; rintro e w1 ⟨rfl, rfl⟩)
  go_ret
  exact ⟨rfl, (((Below.refl w.heap.size w).alloc (Nat.le_refl _) _).alloc (by simp) _).alloc (by simp; omega) _⟩

set_option maxHeartbeats 400000 in
theorem dot_any (a1 a2 b1 b2 : Int) (w : World) (h1 : Bd 100000000 a1) (h2 : Bd 100000000 a2) (h3 : Bd 100000000 b1) (h4 : Bd 100000000 b2) :
    Calls Try.prog 72 #[.agg #[.int .i64 a1, .int .i64 a2], .agg #[.int .i64 b1, .int .i64 b2]] w fun e w' => e = .returned (.int .i64 (dt (a1, a2) (b1, b2))) ∧ Below w.heap.size w w' := by
  have m1 := h1.mul h3
  have m2 := h2.mul h4
  have e1 := i64_bd m1 (by omega)
  have e3 := i64_bd m2 (by omega)
  have M1 := Lib.hid m1
  have M2 := Lib.hid m2
  clear m1 m2 h1 h2 h3 h4
  go_enter Try.func72, Try.ntmps72
  go_wp2_with (go_at_call 66; refine (sum_two _ _ _ _ (by simp [cell_al]) (by simp [cell_al]) (by simp) (M1.out.mono (by omega)) (M2.out.mono (by omega))).mono ?_; rintro e w1 ⟨rfl, rfl⟩)
  go_ret
  exact ⟨rfl, (((Below.refl w.heap.size w).alloc (Nat.le_refl _) _).alloc (by simp) _).alloc (by simp; omega) _⟩

set_option maxHeartbeats 400000 in
theorem minus_any (a1 a2 b1 b2 : Int) (w : World) (h1 : Bd 100000000 a1) (h2 : Bd 100000000 a2) (h3 : Bd 100000000 b1) (h4 : Bd 100000000 b2) :
    Calls Try.prog 73 #[.agg #[.int .i64 a1, .int .i64 a2], .agg #[.int .i64 b1, .int .i64 b2]] w fun e w' => e = .returned (.agg #[.int .i64 (a1 - b1), .int .i64 (a2 - b2)]) ∧ Below w.heap.size w w' := by
  have e1 := i64_bd (h1.sub h3) (by omega)
  have e3 := i64_bd (h2.sub h4) (by omega)
  clear h1 h2 h3 h4
  go_enter Try.func73, Try.ntmps73
  go_wp2_with fail
  refine bodyPost_ret (v := .agg #[.int .i64 (a1 - b1), .int .i64 (a2 - b2)]) (by simp [results, Try.results73, go_sem]) rfl ⟨rfl, ?_⟩
  exact ((((Below.refl w.heap.size w).alloc (Nat.le_refl _) _).alloc (by simp) _).alloc (by simp; omega) _)

/-- a world that holds all that w holds -/
structure Kl (w : World) where
  W : World
  h : Below w.heap.size w W
theorem wp_region_below {P : Program} {id : Nat} {Q : Exit → Act → World → Prop} {a : Act} {w : World} {l : List Oper} (hm : P.follows .mixedOrders = true) (hB : Region.lexB .any l.toArray = true)
    (h : wpQuiet P l.toArray (fun w' => ∃ n : Kl w, w' = n.W) (fun a' => ∀ w', (∃ n : Kl w, w' = n.W) → Q .normal a' w') l a) : (Code.region id l.toArray true).wp P Q a w :=
  wp_region_quiet (C := fun w' => ∃ n : Kl w, w' = n.W) hm hB ⟨⟨w.drew, (Below.refl _ _).drew⟩, rfl⟩ (by simpa using h)
theorem Kl.call {P : Program} {f : FuncId} {args : Array Value} {w : World} {x : Kl w} {v : Value}
    (h : Calls P f args x.W fun e w' => e = .returned v ∧ Below x.W.heap.size x.W w') : Calls P f args x.W fun e w'' => e = .returned v ∧ ∃ n : Kl w, w'' = n.W :=
  h.mono fun _ w' ⟨he, hb⟩ => ⟨he, ⟨w', Below.andThen x.h hb (Nat.le_refl _)⟩, rfl⟩
theorem Kl.cell {w : World} {b o : Nat} {v : Value} (hb : b < w.heap.size) (h : w.cell? ⟨b, o, none⟩ = some v) (x : Kl w) : x.W.cell? ⟨b, o, none⟩ = some v := below_at x.h hb h
instance (w : World) : Nonempty (Kl w) := ⟨⟨w, Below.refl _ _⟩⟩

set_option maxHeartbeats 400000 in
theorem turnsLeft_any (a1 a2 b1 b2 c1 c2 : Int) (w : World) (h1 : Bd 1000 a1) (h2 : Bd 1000 a2) (h3 : Bd 1000 b1) (h4 : Bd 1000 b2) (h5 : Bd 1000 c1) (h6 : Bd 1000 c2) :
    Calls Try.prog 98 #[.agg #[.int .i64 a1, .int .i64 a2], .agg #[.int .i64 b1, .int .i64 b2], .agg #[.int .i64 c1, .int .i64 c2]] w fun e w' => e = .returned (.bool (lft (a1, a2) (b1, b2) (c1, c2))) ∧ Below w.heap.size w w' := by
  have j1 := Lib.hid (h1.mono (C := 100000000) (by omega))
  have j2 := Lib.hid (h2.mono (C := 100000000) (by omega))
  have j3 := Lib.hid (h3.mono (C := 100000000) (by omega))
  have j4 := Lib.hid (h4.mono (C := 100000000) (by omega))
  have j5 := Lib.hid (h5.mono (C := 100000000) (by omega))
  have j6 := Lib.hid (h6.mono (C := 100000000) (by omega))
  have k1 := Lib.hid ((h3.sub h1).mono (C := 100000000) (by omega))
  have k2 := Lib.hid ((h4.sub h2).mono (C := 100000000) (by omega))
  have k3 := Lib.hid ((h5.sub h1).mono (C := 100000000) (by omega))
  have k4 := Lib.hid ((h6.sub h2).mono (C := 100000000) (by omega))
  have fin : lft (a1, a2) (b1, b2) (c1, c2) = decide (0 < crs (b1 - a1, b2 - a2) (c1 - a1, c2 - a2)) := rfl
  have Fin := Lib.hid fin
  clear h1 h2 h3 h4 h5 h6 fin
  go_enter Try.func98, Try.ntmps98
  go_wp2_with fail
  obtain ⟨W0, hW0⟩ : ∃ W0, W0 = ((w.alloc (.cells #[.int .i64 a1, .int .i64 a2] 58)).alloc (.cells #[.int .i64 b1, .int .i64 b2] 58)).alloc (.cells #[.int .i64 c1, .int .i64 c2] 58) := ⟨_, rfl⟩
  have B0 : Below w.heap.size w W0 := by rw [hW0]; exact ((((Below.refl w.heap.size w).alloc (Nat.le_refl _) _).alloc (by simp) _).alloc (by simp; omega) _)
  have hsz : W0.heap.size = w.heap.size + 3 := by rw [hW0]; simp
  have x0 := Kl.cell (w := W0) (b := w.heap.size) (o := 0) (v := .int .i64 a1) (by omega) (by rw [hW0]; simp [cell_al] <;> omega)
  have x1 := Kl.cell (w := W0) (b := w.heap.size) (o := 1) (v := .int .i64 a2) (by omega) (by rw [hW0]; simp [cell_al] <;> omega)
  have x2 := Kl.cell (w := W0) (b := w.heap.size + 1) (o := 0) (v := .int .i64 b1) (by omega) (by rw [hW0]; simp [cell_al] <;> omega)
  have x3 := Kl.cell (w := W0) (b := w.heap.size + 1) (o := 1) (v := .int .i64 b2) (by omega) (by rw [hW0]; simp [cell_al] <;> omega)
  have x4 := Kl.cell (w := W0) (b := w.heap.size + 2) (o := 0) (v := .int .i64 c1) (by omega) (by rw [hW0]; simp [cell_al] <;> omega)
  have x5 := Kl.cell (w := W0) (b := w.heap.size + 2) (o := 1) (v := .int .i64 c2) (by omega) (by rw [hW0]; simp [cell_al] <;> omega)
  rw [← hW0]
  have BB := Lib.hid B0
  clear hW0 hsz B0
  refine wp_region_below (by kernel_rfl) (by kernel_rfl) ?_
  repeat (go_big_quiet_step (first | exact Kl.call (minus_any _ _ _ _ _ (by first | exact j1.out | exact j3.out | exact j5.out) (by first | exact j2.out | exact j4.out | exact j6.out) j1.out j2.out) | exact Kl.call (cross_any _ _ _ _ _ k1.out k2.out k3.out k4.out)))
  refine wpQuiet_nil ?_
  rintro _ ⟨wq, rfl⟩
  go_wp2_with fail
  go_ret
  exact ⟨ret_bool (by rw [Fin.out]), Below.andThen BB.out wq.h (Nat.le_refl _)⟩
end Go.Proofs.Ytlehddifcjklgaa
namespace Go.Proofs.Ytlehddifcjklgaa
open Go.RowKit Go.Shelf
attribute [local go_sem] Oper.semAt_some
/-- the points of ps lie at block b from offset o on, two numbers each -/
structure PtsAt (w : World) (b o : Nat) (ps : List Pt) : Prop where
  lt : b < w.heap.size
  x : ∀ i (h : i < ps.length), w.cell? ⟨b, o + i * 2, none⟩ = some (.int .i64 ps[i].1)
  y : ∀ i (h : i < ps.length), w.cell? ⟨b, o + i * 2 + 1, none⟩ = some (.int .i64 ps[i].2)
theorem PtsAt.below {B : Nat} {w w' : World} {b o : Nat} {ps : List Pt} (h : PtsAt w b o ps) (hb : Below B w w') (hB : b < B) : PtsAt w' b o ps :=
  ⟨Nat.lt_of_lt_of_le h.lt hb.size, fun i hi => below_at hb hB (h.x i hi), fun i hi => below_at hb hB (h.y i hi)⟩
theorem PtsAt.grow {w w' : World} {b o : Nat} {ps : List Pt} (h : PtsAt w b o ps) (hb : Below w.heap.size w w') : PtsAt w' b o ps := h.below hb h.lt

theorem inR_false {p1 p2 : Int} (h : p1 < -20 ∨ p2 < -20 ∨ 20 < p1 ∨ 20 < p2) : inR (p1, p2) = false := by
  unfold inR
  rcases h with h | h | h | h <;> simp <;> omega
theorem inR_true {p1 p2 : Int} (h1 : -20 ≤ p1) (h2 : p1 ≤ 20) (h3 : -20 ≤ p2) (h4 : p2 ≤ 20) : inR (p1, p2) = true := by
  unfold inR; simp; omega
set_option maxHeartbeats 400000 in
theorem arePoints_mid (ps : List Pt) (b o c : Nat) (w : World) (hp : PtsAt w b o ps) (h3 : 3 ≤ ps.length) (h12 : ps.length ≤ 12) :
    Calls Try.prog 62 #[.slice (some ⟨b, o, none⟩) ps.length c] w fun e w' => e = .returned (.bool (areP ps)) ∧ Below w.heap.size w w' := by
  have d1 : decide ((ps.length : Int) < 3) = false := by simp; omega
  have d2 : decide (12 < (ps.length : Int)) = false := by simp; omega
  have HP := Lib.hid hp
  clear hp
  go_enter Try.func62, Try.ntmps62
  go_wp2
  go_loopw [15] (fun i wr => ∃ k : Nat, k ≤ ps.length ∧ i = .int .i64 (k : Int) ∧ Hid (Below w.heap.size w wr) ∧ Hid ((ps.take k).all inR = true)) (fun i _ => ps.length - (intOf i).toNat)
  case atStart => exact ⟨0, by omega, rfl, Lib.hid (Below.refl _ _), Lib.hid rfl⟩
  case round =>
    obtain ⟨k, hk, rfl, HB, HK⟩ := hrel
    by_cases hlt : k < ps.length
    · have hd : decide ((k : Int) < (ps.length : Int)) = true := by simp; omega
      have hx := below_at HB.out HP.out.lt (HP.out.x k hlt)
      have hy := below_at HB.out HP.out.lt (HP.out.y k hlt)
      have hs : (ps.take (k + 1)).all inR = inR ps[k] := by
        rw [List.take_succ_eq_append_getElem hlt, List.all_append, HK.out]; simp
      have HS := Lib.hid hs
      have hf : inR ps[k] = false → areP ps = false := fun h => by
        unfold areP
        rw [Bool.and_eq_false_iff]; right
        rw [List.all_eq_false]; exact ⟨ps[k], List.getElem_mem _, by simp [h]⟩
      have HF := Lib.hid hf
      clear hs hf
      generalize ps[k] = p at *
      obtain ⟨p1, p2⟩ := p
      simp only at hx hy
      go_wp2
      all_goals first
        | (go_ret
           exact ⟨ret_bool (HF.out (inR_false (by omega))).symm, Below.al HB.out (Nat.le_refl _) _⟩)
        | (go_roundw
           case rel => exact ⟨k + 1, by omega, rfl, Lib.hid (Below.al HB.out (Nat.le_refl _) _), Lib.hid (by rw [HS.out]; exact inR_true (by omega) (by omega) (by omega) (by omega))⟩
           case measure => simp [intOf]; omega)
    · have hd : decide ((k : Int) < (ps.length : Int)) = false := by simp; omega
      have hk2 : k = ps.length := by omega
      subst hk2
      go_wp2
      go_ret
      refine ⟨ret_bool ?_, HB.out⟩
      have h := HK.out
      rw [List.take_length] at h
      unfold areP; rw [h]; simp [h3, h12]
theorem arePoints_short (ps : List Pt) (v : Option Addr) (c : Nat) (w : World) (hl : ps.length ≤ 1000000) (h : ps.length < 3 ∨ 12 < ps.length) :
    Calls Try.prog 62 #[.slice v ps.length c] w fun e w' => e = .returned (.bool (areP ps)) ∧ Below w.heap.size w w' := by
  have fin : areP ps = false := by
    unfold areP; rcases h with h | h <;> simp <;> omega
  have Fin := Lib.hid fin
  clear fin
  rcases h with h | h
  · have d1 : decide ((ps.length : Int) < 3) = true := by simp; omega
    go_enter Try.func62, Try.ntmps62
    go_wp2
    go_ret
    exact ⟨ret_bool Fin.out.symm, Below.refl _ _⟩
  · have d1 : decide ((ps.length : Int) < 3) = false := by simp; omega
    have d2 : decide (12 < (ps.length : Int)) = true := by simp; omega
    go_enter Try.func62, Try.ntmps62
    go_wp2
    go_ret
    exact ⟨ret_bool Fin.out.symm, Below.refl _ _⟩
theorem arePoints_any (ps : List Pt) (b o c : Nat) (w : World) (hp : PtsAt w b o ps) (hl : ps.length ≤ 1000000) :
    Calls Try.prog 62 #[.slice (some ⟨b, o, none⟩) ps.length c] w fun e w' => e = .returned (.bool (areP ps)) ∧ Below w.heap.size w w' := by
  by_cases h : ps.length < 3 ∨ 12 < ps.length
  · exact arePoints_short ps _ c w hl h
  · exact arePoints_mid ps b o c w hp (by omega) (by omega)
theorem inR_bd {ps : List Pt} (h : areP ps = true) {i : Nat} (hi : i < ps.length) : Bd 20 ps[i].1 ∧ Bd 20 ps[i].2 := by
  unfold areP at h
  simp only [Bool.and_eq_true, List.all_eq_true] at h
  have := h.2 _ (List.getElem_mem hi)
  simp [inR] at this
  unfold Bd; omega
theorem areP_len {ps : List Pt} (h : areP ps = true) : 3 ≤ ps.length ∧ ps.length ≤ 12 := by
  unfold areP at h; simp at h; omega

set_option maxHeartbeats 400000 in
theorem isSide_any (ps : List Pt) (b o c : Nat) (a1 a2 b1 b2 : Int) (w : World) (hp : PtsAt w b o ps) (ha : areP ps = true) (h1 : Bd 20 a1) (h2 : Bd 20 a2) (h3 : Bd 20 b1) (h4 : Bd 20 b2) :
    Calls Try.prog 64 #[.slice (some ⟨b, o, none⟩) ps.length c, .agg #[.int .i64 a1, .int .i64 a2], .agg #[.int .i64 b1, .int .i64 b2]] w fun e w' => e = .returned (.bool (isSide ps (a1, a2) (b1, b2))) ∧ Below w.heap.size w w' := by
  have hl := areP_len ha
  have HA := Lib.hid ha
  have HP := Lib.hid hp
  have H1 := Lib.hid (h1.mono (C := 1000) (by omega))
  have H2 := Lib.hid (h2.mono (C := 1000) (by omega))
  have H3 := Lib.hid (h3.mono (C := 1000) (by omega))
  have H4 := Lib.hid (h4.mono (C := 1000) (by omega))
  clear hp ha h1 h2 h3 h4
  go_enter Try.func64, Try.ntmps64
  go_wp2_with fail
  obtain ⟨W0, hW0⟩ : ∃ W0, W0 = (w.alloc (.cells #[.int .i64 a1, .int .i64 a2] 58)).alloc (.cells #[.int .i64 b1, .int .i64 b2] 58) := ⟨_, rfl⟩
  have B0 : Below w.heap.size w W0 := by rw [hW0]; exact ((Below.refl w.heap.size w).alloc (Nat.le_refl _) _).alloc (by simp) _
  have hsz : W0.heap.size = w.heap.size + 2 := by rw [hW0]; simp
  have x0 : W0.cell? ⟨w.heap.size, 0, none⟩ = some (.int .i64 a1) := by rw [hW0]; simp [cell_al] <;> omega
  have x1 : W0.cell? ⟨w.heap.size, 1, none⟩ = some (.int .i64 a2) := by rw [hW0]; simp [cell_al] <;> omega
  have x2 : W0.cell? ⟨w.heap.size + 1, 0, none⟩ = some (.int .i64 b1) := by rw [hW0]; simp [cell_al] <;> omega
  have x3 : W0.cell? ⟨w.heap.size + 1, 1, none⟩ = some (.int .i64 b2) := by rw [hW0]; simp [cell_al] <;> omega
  have HP0 := Lib.hid (HP.out.grow B0)
  rw [← hW0]
  have BB := Lib.hid B0
  clear hW0 B0 HP
  have l1 : w.heap.size < W0.heap.size := by omega
  have l2 : w.heap.size + 1 < W0.heap.size := by omega
  clear hsz
  go_loopw [7, 12] (fun s i wr => ∃ k : Nat, k ≤ ps.length ∧ s = .int .i64 ((ps.take k).countP (lft (a1, a2) (b1, b2)) : Int) ∧ i = .int .i64 (k : Int) ∧ Hid (Below W0.heap.size W0 wr)) (fun _ i _ => ps.length - (intOf i).toNat)
  case atStart => exact ⟨0, by omega, rfl, rfl, Lib.hid (Below.refl _ _)⟩
  case round =>
    obtain ⟨k, hk, rfl, rfl, HB⟩ := hrel
    by_cases hlt : k < ps.length
    · have hd : decide ((k : Int) < (ps.length : Int)) = true := by simp; omega
      have hx := below_at HB.out HP0.out.lt (HP0.out.x k hlt)
      have hy := below_at HB.out HP0.out.lt (HP0.out.y k hlt)
      have y0 := below_at (Below.al HB.out (Nat.le_refl _) (.cells #[.int .i64 ps[k].1, .int .i64 ps[k].2] 58)) l1 x0
      have y1 := below_at (Below.al HB.out (Nat.le_refl _) (.cells #[.int .i64 ps[k].1, .int .i64 ps[k].2] 58)) l1 x1
      have y2 := below_at (Below.al HB.out (Nat.le_refl _) (.cells #[.int .i64 ps[k].1, .int .i64 ps[k].2] 58)) l2 x2
      have y3 := below_at (Below.al HB.out (Nat.le_refl _) (.cells #[.int .i64 ps[k].1, .int .i64 ps[k].2] 58)) l2 x3
      have hs : (ps.take (k + 1)).countP (lft (a1, a2) (b1, b2)) = (ps.take k).countP (lft (a1, a2) (b1, b2)) + if lft (a1, a2) (b1, b2) ps[k] then 1 else 0 := by
        rw [List.take_succ_eq_append_getElem hlt, List.countP_append]; simp [List.countP_cons]
      have HS := Lib.hid hs
      have Hq := inR_bd HA.out hlt
      have H5 := Lib.hid (Hq.1.mono (C := 1000) (by omega))
      have H6 := Lib.hid (Hq.2.mono (C := 1000) (by omega))
      have hc : (ps.take k).countP (lft (a1, a2) (b1, b2)) ≤ 12 := Nat.le_trans List.countP_le_length (by rw [List.length_take]; omega)
      have HB1 := Lib.hid (Below.al HB.out (Nat.le_refl _) (.cells #[.int .i64 ps[k].1, .int .i64 ps[k].2] 58))
      clear hs Hq HB
      generalize ps[k] = p at *
      obtain ⟨p1, p2⟩ := p
      simp only at hx hy y0 y1 y2 y3 H5 H6 HB1
      generalize (ps.take k).countP (lft (a1, a2) (b1, b2)) = cn at *
      go_wp2_with fail
      refine (turnsLeft_any a1 a2 b1 b2 p1 p2 _ H1.out H2.out H3.out H4.out H5.out H6.out).mono ?_
      rintro e w1 ⟨rfl, hb⟩
      have HB2 := Lib.hid (Below.andThen HB1.out hb (Nat.le_refl _))
      clear hb HB1 y0 y1 y2 y3 hx hy
      cases hL : lft (a1, a2) (b1, b2) (p1, p2)
      · have e1 : (ps.take (k + 1)).countP (lft (a1, a2) (b1, b2)) = cn := by rw [HS.out, hL]; simp
        have E1 := Lib.hid e1
        clear e1 HS hL
        go_wp2_with fail
        go_roundw
        case rel => exact ⟨k + 1, by omega, by rw [E1.out], rfl, HB2⟩
        case measure => simp [intOf]; omega
      · have e1 : (ps.take (k + 1)).countP (lft (a1, a2) (b1, b2)) = cn + 1 := by rw [HS.out, hL]; simp
        have E1 := Lib.hid e1
        clear e1 HS hL
        go_wp2_with fail
        go_roundw
        case rel => exact ⟨k + 1, by omega, by rw [E1.out]; simp, rfl, HB2⟩
        case measure => simp [intOf]; omega
    · have hd : decide ((k : Int) < (ps.length : Int)) = false := by simp; omega
      have hk2 : k = ps.length := by omega
      subst hk2
      have hfin : isSide ps (a1, a2) (b1, b2) = decide (((ps.take ps.length).countP (lft (a1, a2) (b1, b2)) : Int) = (ps.length : Int) - 2) := by unfold isSide; rw [List.take_length]
      have Fin := Lib.hid hfin
      clear hfin
      generalize (ps.take ps.length).countP (lft (a1, a2) (b1, b2)) = cn at *
      go_wp2_with fail
      go_ret
      refine ⟨ret_bool ?_, Below.andThen BB.out HB.out (Nat.le_refl _)⟩
      rw [Fin.out]
      first | rfl | (rw [Bool.eq_iff_iff]; simp)
end Go.Proofs.Ytlehddifcjklgaa
namespace Go.Proofs.Ytlehddifcjklgaa
open Go.RowKit Go.Shelf
attribute [local go_sem] Oper.semAt_some
theorem filter_set : ∀ (bs : List Bool) (j : Nat), bs[j]? = some false → ((bs.set j true).filter (! ·)).length + 1 = (bs.filter (! ·)).length
  | [], j, h => by simp at h
  | b :: bs, 0, h => by simp at h; subst h; simp
  | b :: bs, j + 1, h => by
    have := filter_set bs j (by simpa using h)
    cases b <;> simp at this ⊢ <;> omega
section
variable {F : Fence} {n : Nat} {P : Program} {Q : Exit → Act → World → Prop}
theorem uponIn_then {o : Oper} {a : Act} {w : World} {next K : Act → World → Prop} (h : o.wpIn F n P a w next (Exit.then K Q)) : o.wpIn F n P a w next Q := by
  unfold Oper.wpIn at *
  refine ⟨h.1, ?_⟩
  have h := h.2
  generalize (o.semAt F.round a.eval).run P w = r at *
  cases r with
  | ok x w' => cases x <;> exact h
  | halt x w' => cases x <;> exact h
theorem getD_toArray (l : List Bool) (j : Nat) (d : Bool) : l.toArray.getD j d = l[j]?.getD d := by
  simp [Array.getD_eq_getD_getElem?]
/-- each operation waits for earlier ones alone -/
def waitsB (l : List Oper) : Bool := (List.range l.length).all fun i => ((l[i]?).map fun o => o.after.all fun e => decide (e.on < i)).getD true
def noGuardB (l : List Oper) : Bool := l.all fun o => o.guard.isNone
def onB (l : List Oper) (i j : Nat) : Bool := ((l[i]?).map fun o => o.after.any fun e => e.on == j && Region.binds .any e).getD false
/-- each of the first m operations is waited for by a later one, the m-th included -/
def feedsB (l : List Oper) (m : Nat) : Bool := (List.range m).all fun j => (List.range (m + 1)).any fun i => decide (j < i) && onB l i j
/-- behind the m-th each waits for the one ahead of it -/
def chainB (l : List Oper) (m : Nat) : Bool := (List.range l.length).all fun i => decide (i ≤ m) || onB l i (i - 1)
theorem onB_spec {l : List Oper} {i j : Nat} (h : onB l i j = true) {o : Oper} (ho : l[i]? = some o) : ∃ e ∈ o.after, Region.binds .any e = true ∧ e.on = j := by
  unfold onB at h
  rw [ho] at h
  simp only [Option.map_some, Option.getD_some, Array.any_eq_true'] at h
  obtain ⟨e, he, h2⟩ := h
  simp only [Bool.and_eq_true, beq_iff_eq] at h2
  exact ⟨e, he, h2.2, h2.1⟩
theorem wpOpIn_of_cut {l : List Oper} {m i : Nat} {K K' K2 : Act → World → Prop} {a : Act} {w : World} (hg : noGuardB l = true) (hi : i < m) (hm : m ≤ l.length) (hK : ∀ a w, K a w → K' a w)
    (h : wpOpIn F n P (l.take m).toArray (Exit.then K2 Q) i K a w) : wpOpIn F n P l.toArray Q i K' a w := by
  have ho : l[i]? = some l[i] := List.getElem?_eq_getElem (by omega)
  have h1 : (l.take m).toArray[i]? = some l[i] := by simp [hi]
  have h2 : l.toArray[i]? = some l[i] := by simp
  have hg1 : (l[i]'(by omega)).guard = none := by
    unfold noGuardB at hg
    rw [List.all_eq_true] at hg
    have := hg _ (List.getElem_mem (show i < l.length by omega))
    simpa using this
  unfold wpOpIn at *
  simp only [h1] at h
  simp only [h2]
  simp only [Region.wanted, hg1, if_true] at h ⊢
  exact Oper.wpIn_mono hK (uponIn_then h)
/-- the operations behind the m-th come one after the other -/
theorem wpAnyIn_tail {l : List Oper} (hd : waitsB l = true) (m : Nat) (hc : chainB l m = true) : ∀ (r k : Nat) (a : Act) (w : World), m ≤ k → k + r = l.length →
    wpOpsIn F n P l.toArray Q (List.range' k r) a w → wpAnyIn F n P .any l.toArray Q r (List.replicate k true ++ List.replicate r false).toArray a w
  | 0, k, a, w, hm, hk, h => by
    have h' : Q .normal a w := by simpa [wpOpsIn] using h
    refine ⟨?_, h'⟩
    cases hr : Region.ready .any l.toArray (List.replicate k true ++ List.replicate 0 false).toArray with
    | nil => rfl
    | cons j js =>
      have hj : j ∈ Region.ready .any l.toArray (List.replicate k true ++ List.replicate 0 false).toArray := by rw [hr]; exact List.mem_cons_self
      obtain ⟨h1, o, h2, _⟩ := mem_ready.1 hj
      have hlt : j < l.length := by have := (List.getElem?_eq_some_iff.1 (by simpa using h2 : l[j]? = some o)).1; exact this
      simp [Array.getD, show j < k by omega] at h1
  | r + 1, k, a, w, hm, hk, h => by
    have hget : ∀ j d, (List.replicate k true ++ List.replicate (r + 1) false).toArray.getD j d = if j < k then true else if j < l.length then false else d := fun j d => by
      rw [getD_toArray, List.getElem?_append, List.length_replicate, List.getElem?_replicate, List.getElem?_replicate]
      by_cases h1 : j < k
      · simp [h1]
      · by_cases h2 : j < l.length
        · simp [h1, h2, show j - k < r + 1 by omega]
        · simp [h1, h2, show ¬ j - k < r + 1 by omega]
    have hw := hd
    unfold waitsB at hw
    rw [List.all_eq_true] at hw
    have hready : ∀ j, j ∈ Region.ready .any l.toArray (List.replicate k true ++ List.replicate (r + 1) false).toArray ↔ j = k := fun j => by
      rw [mem_ready]
      constructor
      · rintro ⟨h1, o, h2, h3⟩
        have h2' : l[j]? = some o := by simpa using h2
        have hlt := (List.getElem?_eq_some_iff.1 h2').1
        rw [hget] at h1
        have hjk : ¬ j < k := fun h => by simp [h] at h1
        false_or_by_contra
        rename_i hne
        have hch := hc
        unfold chainB at hch
        rw [List.all_eq_true] at hch
        have := hch j (List.mem_range.2 hlt)
        simp only [Bool.or_eq_true, decide_eq_true_eq] at this
        rcases this with h | h
        · omega
        · obtain ⟨e, he, hb, hon⟩ := onB_spec h h2'
          have := h3 e he hb
          rw [hget, hon] at this
          have h5 : ¬ j - 1 < k := by omega
          simp [h5] at this
      · rintro rfl
        have hlt : j < l.length := by omega
        refine ⟨by rw [hget]; simp [hlt], l[j], by simp [hlt], fun e he hb => ?_⟩
        have h1 := hw j (List.mem_range.2 hlt)
        rw [List.getElem?_eq_getElem hlt] at h1
        simp only [Option.map_some, Option.getD_some] at h1
        have h2 := of_decide_eq_true ((Array.all_eq_true'.1 h1) e he)
        rw [hget]; simp [h2]
    refine ⟨fun hr => ?_, fun j hj => ?_⟩
    · have := (hready k).2 rfl
      rw [hr] at this; cases this
    · obtain rfl := (hready j).1 hj
      rw [List.range'_succ, wpOpsIn_cons] at h
      refine wpOpIn_mono (fun a' w' h' => ?_) h
      have := wpAnyIn_tail hd m hc r (j + 1) a' w' (by omega) (by omega) h'
      have e : (List.replicate j true ++ List.replicate (r + 1) false).toArray.setIfInBounds j true = (List.replicate (j + 1) true ++ List.replicate r false).toArray := by
        rw [List.setIfInBounds_toArray, List.set_append, if_neg (by simp), List.replicate_succ (n := r)]
        simp [List.replicate_succ']
      rw [e]; exact this
set_option maxHeartbeats 1600000 in
/-- **a region whose first m operations all come ahead of the rest, which come one after the other** -/
theorem wpAnyIn_cut {l : List Oper} (m : Nat) (hm : m < l.length) (hg : noGuardB l = true) (hd : waitsB l = true) (hf : feedsB l m = true) (hc : chainB l m = true) :
    ∀ (fuel : Nat) (bs : List Bool) (a : Act) (w : World), bs.length = m → (bs.filter (! ·)).length ≤ fuel →
      (∀ i o, l[i]? = some o → bs.getD i false = true → ∀ e ∈ o.after, Region.binds .any e = true → bs.getD e.on false = true) →
      wpAnyIn F n P .any (l.take m).toArray (Exit.then (wpOpsIn F n P l.toArray Q (List.range' m (l.length - m))) Q) fuel bs.toArray a w →
      wpAnyIn F n P .any l.toArray Q (fuel + (l.length - m)) (bs ++ List.replicate (l.length - m) false).toArray a w := by
  have hw := hd
  unfold waitsB at hw
  rw [List.all_eq_true] at hw
  -- what waits for what
  have hwait : ∀ i (hi : i < l.length), ∀ e ∈ l[i].after, e.on < i := fun i hi e he => by
    have h1 := hw i (List.mem_range.2 hi)
    rw [List.getElem?_eq_getElem hi] at h1
    simp only [Option.map_some, Option.getD_some] at h1
    exact of_decide_eq_true ((Array.all_eq_true'.1 h1) e he)
  have hfeed : ∀ j, j < m → ∃ i, j < i ∧ i ≤ m ∧ ∃ o, l[i]? = some o ∧ ∃ e ∈ o.after, Region.binds .any e = true ∧ e.on = j := fun j hj => by
    have h1 := hf
    unfold feedsB at h1
    rw [List.all_eq_true] at h1
    have h2 := h1 j (List.mem_range.2 hj)
    rw [List.any_eq_true] at h2
    obtain ⟨i, hi, h3⟩ := h2
    simp only [Bool.and_eq_true, decide_eq_true_eq] at h3
    have hi2 := List.mem_range.1 hi
    exact ⟨i, h3.1, by omega, l[i]'(by omega), List.getElem?_eq_getElem (by omega), onB_spec h3.2 (List.getElem?_eq_getElem (by omega))⟩
  have hgetD : ∀ (bs : List Bool), bs.length = m → ∀ j d, (bs ++ List.replicate (l.length - m) false).toArray.getD j d = if j < m then bs.getD j false else if j < l.length then false else d := fun bs hl j d => by
    have h0 : m + (l.length - m) = l.length := by omega
    rw [getD_toArray, List.getElem?_append, hl, List.getElem?_replicate, List.getD_eq_getElem?_getD]
    by_cases h1 : j < m
    · simp [h1, show j < bs.length by omega]
    · by_cases h2 : j < l.length
      · simp [h1, h2, show j - m < l.length - m by omega]
      · simp [h1, h2, show ¬ j - m < l.length - m by omega]
  have hgetP : ∀ (bs : List Bool), bs.length = m → ∀ j d, bs.toArray.getD j d = if j < m then bs.getD j false else d := fun bs hl j d => by
    rw [getD_toArray, List.getD_eq_getElem?_getD]
    by_cases h1 : j < m
    · simp [h1, show j < bs.length by omega]
    · simp [h1, show ¬ j < bs.length by omega]
  -- the m-th waits for all
  have hall : ∀ (bs : List Bool), bs.length = m → (∀ i o, l[i]? = some o → bs.getD i false = true → ∀ e ∈ o.after, Region.binds .any e = true → bs.getD e.on false = true) →
      (∀ e ∈ (l[m]'hm).after, Region.binds .any e = true → bs.getD e.on false = true) → bs = List.replicate m true := fun bs hl hcl hmm => by
    have key : ∀ d j, m - j ≤ d → j < m → bs.getD j false = true := by
      intro d
      induction d with
      | zero => intro j h1 h2; omega
      | succ d ih =>
        intro j h1 h2
        obtain ⟨i, h3, h4, o, ho, e, he, hb, rfl⟩ := hfeed j h2
        by_cases h5 : i = m
        · subst h5
          rw [List.getElem?_eq_getElem hm] at ho; cases ho
          exact hmm e he hb
        · exact hcl i o ho (ih i (by omega) (by omega)) e he hb
    rw [List.eq_replicate_iff]
    refine ⟨hl, fun b hb => ?_⟩
    obtain ⟨j, hj, rfl⟩ := List.getElem_of_mem hb
    have := key m j (by omega) (by omega)
    simpa [hj] using this
  -- what is ready here and there
  have hrd : ∀ (bs : List Bool), bs.length = m → ∀ j, j < m → (j ∈ Region.ready .any l.toArray (bs ++ List.replicate (l.length - m) false).toArray ↔ j ∈ Region.ready .any (l.take m).toArray bs.toArray) := fun bs hl j hj => by
    have hjl : j < l.length := by omega
    have e1 : l.toArray[j]? = some l[j] := by simp [hjl]
    have e2 : (l.take m).toArray[j]? = some l[j] := by simp [hj, hjl]
    rw [mem_ready, mem_ready, hgetD bs hl, hgetP bs hl, e1, e2]
    simp only [hj, if_true, Option.some.injEq, exists_eq_left']
    constructor
    · rintro ⟨h1, h2⟩
      refine ⟨h1, fun e he hb => ?_⟩
      have := h2 e he hb
      rw [hgetD bs hl] at this
      have h3 := hwait j hjl e he
      rw [hgetP bs hl]
      simpa [show e.on < m by omega] using this
    · rintro ⟨h1, h2⟩
      refine ⟨h1, fun e he hb => ?_⟩
      have := h2 e he hb
      rw [hgetP bs hl] at this
      have h3 := hwait j hjl e he
      rw [hgetD bs hl]
      simpa [show e.on < m by omega] using this
  have hdone : ∀ (bs : List Bool), bs.length = m → (∀ i o, l[i]? = some o → bs.getD i false = true → ∀ e ∈ o.after, Region.binds .any e = true → bs.getD e.on false = true) →
      bs ≠ List.replicate m true → ∃ j, j < m ∧ j ∈ Region.ready .any (l.take m).toArray bs.toArray := fun bs hl hcl hne => by
    have hex : ∃ b ∈ bs, (!b) = true := by
      false_or_by_contra
      rename_i hno
      refine hne (List.eq_replicate_iff.2 ⟨hl, fun b hb => ?_⟩)
      cases b with
      | true => rfl
      | false => exact absurd ⟨false, hb, rfl⟩ hno
    have hlt : bs.findIdx (! ·) < bs.length := List.findIdx_lt_length.2 hex
    have hf0 : bs[bs.findIdx (! ·)] = false := by have := List.findIdx_getElem (w := hlt); simpa using this
    have hlt2 : bs.findIdx (! ·) < l.length := by omega
    refine ⟨bs.findIdx (! ·), by omega, mem_ready.2 ⟨by rw [hgetP bs hl]; simp [show bs.findIdx (! ·) < m by omega, hlt, hf0], l[bs.findIdx (! ·)], by simp [show bs.findIdx (! ·) < m by omega, hlt2], fun e he _ => ?_⟩⟩
    have h3 := hwait _ hlt2 e he
    have h4 : e.on < bs.length := by omega
    have h5 := List.not_of_lt_findIdx h3
    rw [hgetP bs hl]
    simp [show e.on < m by omega, h4]
    simpa using h5
  -- at the end of the first part
  have hend : ∀ (fuel : Nat) (a : Act) (w : World), wpAnyIn F n P .any (l.take m).toArray (Exit.then (wpOpsIn F n P l.toArray Q (List.range' m (l.length - m))) Q) fuel (List.replicate m true).toArray a w →
      wpAnyIn F n P .any l.toArray Q (fuel + (l.length - m)) (List.replicate m true ++ List.replicate (l.length - m) false).toArray a w := fun fuel a w h => by
    have hnil : Region.ready .any (l.take m).toArray (List.replicate m true).toArray = [] := by
      cases hr : Region.ready .any (l.take m).toArray (List.replicate m true).toArray with
      | nil => rfl
      | cons j js =>
        have hj : j ∈ Region.ready .any (l.take m).toArray (List.replicate m true).toArray := by rw [hr]; exact List.mem_cons_self
        obtain ⟨h1, o, h2, _⟩ := mem_ready.1 hj
        have hlt : j < m := by
          have := (List.getElem?_eq_some_iff.1 (by simpa using h2 : (l.take m)[j]? = some o)).1
          rw [List.length_take] at this; omega
        rw [hgetP _ (by simp)] at h1
        simp [hlt] at h1
    have hQ : wpOpsIn F n P l.toArray Q (List.range' m (l.length - m)) a w := by
      cases fuel with
      | zero => exact h.2
      | succ f => exact h.1 hnil
    have := wpAnyIn_tail hd m hc (l.length - m) m a w (Nat.le_refl _) (by omega) hQ
    -- more fuel does no harm
    have more : ∀ (r d : Nat) (ls : Array Bool) (a : Act) (w : World), wpAnyIn F n P .any l.toArray Q r ls a w → wpAnyIn F n P .any l.toArray Q (d + r) ls a w := by
      intro r
      induction r with
      | zero =>
        intro d ls a w h
        cases d with
        | zero => exact h
        | succ d => exact ⟨fun _ => h.2, fun i hi => by rw [h.1] at hi; cases hi⟩
      | succ r ih =>
        intro d ls a w h
        exact ⟨h.1, fun i hi => wpOpIn_mono (fun a' w' h' => ih d _ a' w' h') (h.2 i hi)⟩
    exact more _ fuel _ _ _ this
  intro fuel
  induction fuel with
  | zero =>
    intro bs a w hl hc0 hcl h
    have hall2 : bs = List.replicate m true := by
      false_or_by_contra
      rename_i hne
      obtain ⟨j, _, hj⟩ := hdone bs hl hcl hne
      rw [h.1] at hj; cases hj
    subst hall2
    exact hend 0 a w h
  | succ fuel ih =>
    intro bs a w hl hc0 hcl h
    by_cases hall2 : bs = List.replicate m true
    · subst hall2; exact hend _ a w h
    · rw [Nat.succ_add]
      refine ⟨fun hr => ?_, fun j hj => ?_⟩
      · obtain ⟨j, hj, hj2⟩ := hdone bs hl hcl hall2
        rw [← hrd bs hl j hj, hr] at hj2; cases hj2
      · obtain ⟨h1, o, h2, h3⟩ := mem_ready.1 hj
        have h2' : l[j]? = some o := by simpa using h2
        have hjl := (List.getElem?_eq_some_iff.1 h2').1
        by_cases hjm : j < m
        · have hset : (bs ++ List.replicate (l.length - m) false).toArray.setIfInBounds j true = (bs.set j true ++ List.replicate (l.length - m) false).toArray := by
            rw [List.setIfInBounds_toArray, List.set_append, if_pos (by omega)]
          rw [hset]
          have hb : bs[j]? = some false := by
            rw [hgetD bs hl] at h1
            rw [List.getElem?_eq_getElem (by omega)]
            simp [hjm, hl] at h1
            rw [h1]
          refine wpOpIn_of_cut hg hjm (by omega) (fun a' w' h' => ?_) (h.2 j ((hrd bs hl j hjm).1 hj))
          refine ih (bs.set j true) a' w' (by simpa using hl) ?_ ?_ ?_
          · have := filter_set bs j hb; omega
          · intro i o' ho' hi e he hbe
            have hse : ∀ x, bs.getD x false = true → (bs.set j true).getD x false = true := fun x hx => by
              rw [List.getD_eq_getElem?_getD] at hx ⊢
              rw [List.getElem?_set]
              by_cases hjx : j = x
              · subst hjx
                rw [if_pos rfl, if_pos (by omega)]; rfl
              · rw [if_neg hjx]; exact hx
            by_cases hij : i = j
            · subst hij
              rw [h2'] at ho'; cases ho'
              have := h3 e he hbe
              rw [hgetD bs hl] at this
              have h5 := hwait i hjl
              rw [List.getElem?_eq_getElem hjl] at h2'; cases h2'
              have h6 := h5 e he
              exact hse _ (by simpa [show e.on < m by omega] using this)
            · refine hse _ (hcl i o' ho' ?_ e he hbe)
              rw [List.getD_eq_getElem?_getD, List.getElem?_set_ne (Ne.symm hij)] at hi
              rw [List.getD_eq_getElem?_getD]; exact hi
          · rw [List.setIfInBounds_toArray] at h'; exact h'
        · exfalso
          have hclm : ∀ e ∈ (l[m]'hm).after, Region.binds .any e = true → bs.getD e.on false = true := fun e he hb => by
            by_cases hjm2 : j = m
            · subst hjm2
              rw [List.getElem?_eq_getElem hjl] at h2'; cases h2'
              have := h3 e he hb
              rw [hgetD bs hl] at this
              have h6 := hwait j hjl e he
              simpa [h6] using this
            · have hch := hc
              unfold chainB at hch
              rw [List.all_eq_true] at hch
              have := hch j (List.mem_range.2 hjl)
              simp only [Bool.or_eq_true, decide_eq_true_eq] at this
              rcases this with h | h
              · omega
              · obtain ⟨e', he', hb', hon⟩ := onB_spec h h2'
                have := h3 e' he' hb'
                rw [hgetD bs hl, hon] at this
                simp [show ¬ j - 1 < m by omega] at this
          exact hall2 (hall bs hl hcl hclm)
/-- **A REGION THAT DRAWS ITS ORDER: its first m operations are quiet, the rest, behind all of them, comes one after the other.** -/
theorem wpIn_region_cut {id : Nat} {a : Act} {w : World} {l : List Oper} {C : World → Prop} (m : Nat) (hro : F.round = none) (hpm : P.follows .mixedOrders = true)
    (hck : (decide (m < l.length) && (noGuardB l && (waitsB l && (feedsB l m && (chainB l m && Region.lexB .any (l.take m).toArray))))) = true) (hC : C w.drew)
    (h : wpQuietIn F n P (l.take m).toArray C (fun a' => ∀ w', C w' → wpListIn F n P l.toArray Q (l.drop m) a' w') (l.take m) a) : (Code.region id l.toArray true).wpIn F n P Q a w := by
  simp only [Bool.and_eq_true, decide_eq_true_eq] at hck
  obtain ⟨hm, hg, hd, hf, hc, hB⟩ := hck
  simp only [Region.lexB, Bool.and_eq_true] at hB
  refine wpIn_region_any hpm ?_
  have hlen : (l.take m).length = m := by rw [List.length_take]; omega
  have h1 := wpAnyQIn_lex (F := F) (n := n) (C := C) (md := .any) hB.1 (l.take m) 0 (Array.replicate (l.take m).toArray.size false) a (by simp) (by simpa using hB.2) h
  have h2 := wpAnyIn_of_quiet (Q' := Exit.then (wpOpsIn F n P l.toArray Q (List.range' m (l.length - m))) Q) hro (fun a w' hw' hq => by
    show wpOpsIn F n P l.toArray Q (List.range' m (l.length - m)) a w'
    have e := wpOpsIn_eq_wpListIn (F := F) (n := n) (P := P) (Q := Q) (ops := l.toArray) (l.drop m) m (fun j => by simp)
    rw [List.length_drop] at e
    rw [e]; exact hq w' hw') _ _ _ w.drew hC h1
  have e1 : Array.replicate (l.take m).toArray.size false = (List.replicate m false).toArray := by simp [hlen]
  have e2 : (l.take m).length = m := hlen
  rw [e1, e2] at h2
  have h3 := wpAnyIn_cut m hm hg hd hf hc m (List.replicate m false) a w.drew (by simp) (by simp) (fun i o _ hi => by
    exfalso
    rw [List.getD_eq_getElem?_getD] at hi
    by_cases h : i < m <;> simp [h] at hi) h2
  have e3 : m + (l.length - m) = l.length := by omega
  have e4 : (List.replicate m false ++ List.replicate (l.length - m) false) = List.replicate l.length false := by rw [List.replicate_append_replicate, e3]
  rw [e3, e4] at h3
  simpa using h3
end
end Go.Proofs.Ytlehddifcjklgaa
namespace Go.Proofs.Ytlehddifcjklgaa
open Go.RowKit Go.Shelf
attribute [local go_sem] Oper.semAt_some
/-- the blocks b and Bs lie as they lay -/
def Keeps2 (b Bs : Nat) (W W' : World) : Prop := W.heap.size ≤ W'.heap.size ∧ W'.heap[b]? = W.heap[b]? ∧ W'.heap[Bs]? = W.heap[Bs]?
theorem Keeps2.refl (b Bs : Nat) (W : World) : Keeps2 b Bs W W := ⟨Nat.le_refl _, rfl, rfl⟩
theorem Keeps2.trans {b Bs : Nat} {A B C : World} (h : Keeps2 b Bs A B) (k : Keeps2 b Bs B C) : Keeps2 b Bs A C := ⟨Nat.le_trans h.1 k.1, k.2.1.trans h.2.1, k.2.2.trans h.2.2⟩
theorem Keeps2.of_below {b Bs B : Nat} {W W' : World} (h : Below B W W') (h1 : b < B) (h2 : Bs < B) : Keeps2 b Bs W W' := ⟨h.size, h.block b h1, h.block Bs h2⟩
theorem Keeps2.put {b Bs l : Nat} (h1 : b < l) (h2 : Bs < l) (W : World) (o : Obj) : Keeps2 b Bs W (W.putObj l o) :=
  ⟨by simp, World.putObj_heap_other (by omega), World.putObj_heap_other (by omega)⟩
theorem Keeps2.cell2 {b Bs o : Nat} {W W' : World} (h : Keeps2 b Bs W W') {v : Value} (hv : W.cell? ⟨Bs, o, none⟩ = some v) : W'.cell? ⟨Bs, o, none⟩ = some v :=
  (World.cell?_of_block (w := W) (a := ⟨Bs, o, none⟩) h.2.2).trans hv
theorem Keeps2.cell1 {b Bs o : Nat} {W W' : World} (h : Keeps2 b Bs W W') {v : Value} (hv : W.cell? ⟨b, o, none⟩ = some v) : W'.cell? ⟨b, o, none⟩ = some v :=
  (World.cell?_of_block (w := W) (a := ⟨b, o, none⟩) h.2.1).trans hv
theorem PtsAt.keep2 {b Bs o : Nat} {W W' : World} {ps : List Pt} (h : PtsAt W b o ps) (k : Keeps2 b Bs W W') : PtsAt W' b o ps :=
  ⟨Nat.lt_of_lt_of_le h.lt k.1, fun i hi => k.cell1 (h.x i hi), fun i hi => k.cell1 (h.y i hi)⟩
/-- what comes of corner i of ps: its number, and its neighbours with it -/
def encC (ps : List Pt) (i : Nat) : Array Value := #[.int .i64 (i : Int), .agg #[.int .i64 (pv ps i).1, .int .i64 (pv ps i).2, .int .i64 (ptAt ps i).1, .int .i64 (ptAt ps i).2, .int .i64 (nx ps i).1, .int .i64 (nx ps i).2]]
theorem ptAt_lt {ps : List Pt} {i : Nat} (h : i < ps.length) : ptAt ps i = ps[i] := by
  unfold ptAt; simp [h]
def upto (k : Nat) : List Nat := List.range k
theorem upto_succ (k : Nat) : upto (k + 1) = upto k ++ [k] := by simp [upto, List.range_succ]
set_option maxRecDepth 100000 in
set_option maxHeartbeats 1000000 in
theorem corners1_in (n : Nat) (l Bs b c : Nat) (ps : List Pt) (h3 : 3 ≤ ps.length) (h12 : ps.length ≤ 12) (J Jx : List Nat → World → Prop)
    (hJa : ∀ pre W W', J pre W → Below W.heap.size W W' → J pre W')
    (hY : ∀ pre (x : Nat) W, J pre W → pre = upto x → x < ps.length → YieldAt Fence.wide (n - 1) Try.prog l (encC ps x) W fun e W' =>
      (e = .returned (.bool true) ∧ J (pre ++ [x]) W' ∧ Keeps2 b Bs W W') ∨ (e = .returned (.bool false) ∧ Jx (pre ++ [x]) W'))
    (W : World) (hBs : W.cell? ⟨Bs, 0, none⟩ = some (.slice (some ⟨b, 0, none⟩) ps.length c)) (hc : PtsAt W b 0 ps) (h0 : J [] W) (hBl : Bs < W.heap.size) :
    CallsIn Fence.wide n Try.prog 97 #[.func (.yield l) #[] #[], .pointer (some ⟨Bs, 0, none⟩)] W fun e W' => (∃ v, e = .returned v) ∧
      ((∃ ys, ys = upto ps.length ∧ J ys W') ∨ (∃ k, 1 ≤ k ∧ k ≤ ps.length ∧ Jx (upto k) W')) := by
  refine callsIn_of_wp Try.func97 rfl trivial ?_ rfl
  simp only [Try.ntmps97, List.size_toArray, List.length_cons, List.length_nil, Nat.reduceAdd, Nat.reduceSub, Array.replicate_succ, Array.replicate_zero, List.push_toArray, List.append_toArray, List.nil_append, List.cons_append]
  have HC := Lib.hid hc
  have HY := Lib.hid hY
  have HJA := Lib.hid hJa
  have H0 := Lib.hid h0
  clear hc hY hJa h0
  gi_wp2_with fail
  gi_loopw [10] (fun i wr => ∃ k : Nat, k ≤ ps.length ∧ i = .int .i64 k ∧ Hid (J (upto k) wr) ∧ Hid (Keeps2 b Bs W wr))
    (fun i _ => ps.length - (intOf i).toNat)
  case atStart => exact ⟨0, Nat.zero_le _, rfl, H0, Lib.hid (Keeps2.refl _ _ _)⟩
  case round =>
    obtain ⟨k, hk, rfl, HJ, HB⟩ := hrel
    have y0 := HB.out.cell2 hBs
    by_cases hlt : k < ps.length
    · have hd : decide ((k : Int) < (ps.length : Int)) = true := by simp; omega
      have HP := HC.out.keep2 HB.out
      have hx := HP.x k hlt
      have hy := HP.y k hlt
      have hkp : (k + ps.length - 1) % ps.length < ps.length := Nat.mod_lt _ (by omega)
      have hkn : (k + 1) % ps.length < ps.length := Nat.mod_lt _ (by omega)
      have hx1 := HP.x _ hkp
      have hy1 := HP.y _ hkp
      have hx2 := HP.x _ hkn
      have hy2 := HP.y _ hkn
      have e1 : IntKind.i64.wrap ((k : Int) + (ps.length : Int)) = ((k + ps.length : Nat) : Int) := by rw [i64_of _ (by omega) (by omega)]; omega
      have e2 : IntKind.i64.wrap (((k + ps.length : Nat) : Int) - 1) = ((k + ps.length - 1 : Nat) : Int) := by rw [i64_of _ (by omega) (by omega)]; omega
      have e3 : (((k + ps.length - 1 : Nat) : Int)).tmod (ps.length : Int) = (((k + ps.length - 1) % ps.length : Nat) : Int) := by rw [← Int.ofNat_tmod]
      have e4 : IntKind.i64.wrap ((k : Int) + 1) = ((k + 1 : Nat) : Int) := by rw [i64_of _ (by omega) (by omega)]; omega
      have e5 : (((k + 1 : Nat) : Int)).tmod (ps.length : Int) = (((k + 1) % ps.length : Nat) : Int) := by rw [← Int.ofNat_tmod]
      have e7 : ((k : Int) + 1) % (ps.length : Int) = (((k + 1) % ps.length : Nat) : Int) := by rw [show (k : Int) + 1 = ((k + 1 : Nat) : Int) by omega]; rfl
      have e8 : ((k : Int) + (ps.length : Int) - 1) % (ps.length : Int) = (((k + ps.length - 1) % ps.length : Nat) : Int) := by
        rw [show (k : Int) + (ps.length : Int) - 1 = ((k + ps.length - 1 : Nat) : Int) by omega]; rfl
      have e9 : (((k + ps.length - 1 : Nat) : Int)) % (ps.length : Int) = (((k + ps.length - 1) % ps.length : Nat) : Int) := rfl
      have e11 : IntKind.i64.wrap ((k : Int) + (ps.length : Int) - 1) = ((k + ps.length - 1 : Nat) : Int) := by rw [i64_of _ (by omega) (by omega)]; omega
      have e6 : ¬ ((ps.length : Int) = 0) := by omega
      have hEnc : encC ps k = #[.int .i64 (k : Int), .agg #[.int .i64 ps[(k + ps.length - 1) % ps.length].1, .int .i64 ps[(k + ps.length - 1) % ps.length].2, .int .i64 ps[k].1, .int .i64 ps[k].2, .int .i64 ps[(k + 1) % ps.length].1, .int .i64 ps[(k + 1) % ps.length].2]] := by
        unfold encC pv nx; rw [ptAt_lt hkp, ptAt_lt hkn, ptAt_lt hlt]
      rw [Nat.zero_add] at hx hy hx1 hy1 hx2 hy2
      generalize hgp : (k + ps.length - 1) % ps.length = kp at *
      generalize hgn : (k + 1) % ps.length = kn at *
      clear hgp hgn
      have HE := Lib.hid hEnc
      clear hEnc
      generalize ps[kp] = pp at *
      generalize ps[kn] = pn at *
      generalize ps[k] = pk at *
      obtain ⟨V, hV⟩ : ∃ V, V = wr.alloc (.cells #[.int .i64 pk.1, .int .i64 pk.2] 58) := ⟨_, rfl⟩
      have hbV : Below wr.heap.size wr V := by rw [hV]; exact (Below.refl _ _).alloc (Nat.le_refl _) _
      have b1 : b < wr.heap.size := HP.lt
      have b2 : Bs < wr.heap.size := Nat.lt_of_lt_of_le hBl HB.out.1
      have z0 := below_at hbV b2 y0
      have z1 := below_at hbV b1 hx1
      have z2 := below_at hbV b1 hy1
      have z3 := below_at hbV b1 hx2
      have z4 := below_at hbV b1 hy2
      have z5 : V.cell? ⟨wr.heap.size, 0, none⟩ = some (.int .i64 pk.1) := by rw [hV]; simp [cell_al]
      have z6 : V.cell? ⟨wr.heap.size, 1, none⟩ = some (.int .i64 pk.2) := by rw [hV]; simp [cell_al]
      gi_wp2_with fail
      rw [← hV]
      clear hx1 hy1 hx2 hy2 hx hy hV y0
      have HJ2 := HJA.out _ _ V.drew HJ.out (Below.andThen hbV (Below.refl _ _).drew (Nat.le_refl _))
      obtain ⟨fn, tmps, assign, body, hyy, hR⟩ := HY.out (upto k) k V.drew HJ2 rfl hlt
      rw [HE.out] at hyy
      have hR2 := hR.mono (R' := fun e W' => ∃ bb, e = .returned (.bool bb) ∧ Hid ((bb = true ∧ J (upto k ++ [k]) W' ∧ Keeps2 b Bs V.drew W') ∨ (bb = false ∧ Jx (upto k ++ [k]) W'))) (by
        rintro e W' (⟨rfl, h⟩ | ⟨rfl, h⟩)
        · exact ⟨true, rfl, Lib.hid (.inl ⟨rfl, h⟩)⟩
        · exact ⟨false, rfl, Lib.hid (.inr ⟨rfl, h⟩)⟩)
      have HR := Lib.hid hR2
      have e10 : ((ps.length : Int) == 0) = false := beq_eq_false_iff_ne.2 (by omega)
      clear hR hR2
      refine wpIn_region_cut (C := fun w' => w' = V.drew) 20 rfl (by kernel_rfl) (by kernel_rfl) rfl ?_
      simp only [List.take_succ_cons, List.take_zero, List.drop_succ_cons, List.drop_zero]
      clear H0
      repeat (gi_big_quiet_step (fail))
      refine wpQuietIn_nil ?_
      rintro _ rfl
      gi_wp2_with fail
      refine ⟨(fun h => by cases h), ?_⟩
      refine HR.out.mono ?_
      rintro e W3 ⟨bb, rfl, hp⟩
      cases bb
      · have hx2 : Jx (upto k ++ [k]) W3 := by
          rcases hp.out with ⟨h, _⟩ | ⟨_, h⟩
          · cases h
          · exact h
        have HX := Lib.hid hx2
        clear hx2 hp hyy HR
        gi_wp2_with fail
        refine bodyPost_ret (results_none rfl _ _ _) rfl ?_
        exact ⟨⟨_, rfl⟩, .inr ⟨k + 1, by omega, by omega, by rw [upto_succ]; exact HX.out⟩⟩
      · have hx2 : J (upto k ++ [k]) W3 ∧ Keeps2 b Bs V.drew W3 := by
          rcases hp.out with ⟨_, h⟩ | ⟨h, _⟩
          · exact h
          · cases h
        have HX := Lib.hid hx2
        clear hx2 hp hyy HR
        gi_wp2_with fail
        go_roundw
        case rel => exact ⟨k + 1, by omega, rfl, Lib.hid (by rw [upto_succ]; exact HX.out.1), Lib.hid (HB.out.trans ((Keeps2.of_below (Below.andThen hbV (Below.refl _ _).drew (Nat.le_refl _)) b1 b2).trans HX.out.2))⟩
        case measure => simp [intOf]; omega
    · obtain rfl : k = ps.length := by omega
      have hd : decide ((ps.length : Int) < (ps.length : Int)) = false := by simp
      gi_wp2_with fail
      go_end0
      exact ⟨⟨_, rfl⟩, .inl ⟨_, rfl, HJ.out⟩⟩

set_option maxHeartbeats 400000 in
theorem corners_any (v : Option Addr) (len cap : Nat) (w : World) :
    Calls Try.prog 63 #[.slice v len cap] w fun e w' => e = .returned (.func (.func 97) #[] #[.pointer (some ⟨w.heap.size, 0, none⟩)]) ∧ w' = w.alloc (.cells #[.slice v len cap] 22) := by
  go_enter Try.func63, Try.ntmps63
  go_wp2
  go_ret
  exact ⟨rfl, rfl⟩

/-- **the corners of a list of points come one after the other** -/
theorem corners_stops (n Bs b c : Nat) (ps : List Pt) (h3 : 3 ≤ ps.length) (h12 : ps.length ≤ 12) (w : World) (hBs0 : Bs < w.heap.size)
    (hBs : w.cell? ⟨Bs, 0, none⟩ = some (.slice (some ⟨b, 0, none⟩) ps.length c)) (hc : PtsAt w b 0 ps) :
    SeqStopsK Fence.wide n Try.prog 97 #[.pointer (some ⟨Bs, 0, none⟩)] (fun x : Fin ps.length => encC ps x.1) (Keeps2 b Bs) (fun ys => ys.map Fin.val = upto ps.length) (fun _ => True) ps.length w := fun l J Jx W hW hJ _ hY h0 => by
  refine (corners1_in n l Bs b c ps h3 h12 (fun pre W' => ∃ pf : List (Fin ps.length), pf.map Fin.val = pre ∧ J pf W' ∧ W.heap.size ≤ W'.heap.size) (fun _ W' => ∃ pf, Jx pf W') ?_ ?_ W (below_at hW hBs0 hBs) (hc.grow hW) ⟨[], rfl, h0, Nat.le_refl _⟩ (Nat.lt_of_lt_of_le hBs0 hW.size)).mono ?_
  · rintro pre A B ⟨pf, hp, hA, hs⟩ hb
    exact ⟨pf, hp, hJ pf A B none hA ⟨hb.os, hb.tape, hb.output, hb.size, fun k hk _ => hb.block k hk⟩ (fun r e => by cases e), Nat.le_trans hs hb.size⟩
  · rintro pre x A ⟨pf, hp, hA, hs⟩ hpre hlt
    obtain ⟨fn, tmps, assign, body, hy, hR⟩ := hY pf ⟨x, hlt⟩ A hA (by
      have : pf.length = (upto x).length := by rw [← hpre, ← hp, List.length_map]
      rw [this]; simp [upto]; exact hlt)
    refine ⟨fn, tmps, assign, body, hy, hR.mono ?_⟩
    rintro e W' (⟨he, h1, h2⟩ | ⟨he, h1⟩)
    · exact .inl ⟨he, ⟨_, by rw [List.map_append, hp]; rfl, h1, Nat.le_trans hs h2.1⟩, h2⟩
    · exact .inr ⟨he, _, h1⟩
  · rintro e W' ⟨he, ⟨ys, rfl, pf, hp, hj, _⟩ | ⟨k, hk1, hk2, pf, hj⟩⟩
    · exact ⟨he, .inl ⟨_, hp, hj⟩⟩
    · exact ⟨he, .inr ⟨_, trivial, hj⟩⟩
/-- a fact on worlds that outlives new blocks, and what happens to blocks from B on that are no cells -/
def Lasts (B : Nat) (I : World → Prop) : Prop :=
  ∀ W W' row, I W → W.grownBy W' row → (∀ r, row = some r → B ≤ r ∧ ∃ o : Obj, W.heap[r]? = some o ∧ o.isCells = false) → I W'
theorem Lasts.put {B : Nat} {I : World → Prop} (h : Lasts B I) {W : World} {l : Nat} {o : Obj} (o' : Obj) (hi : I W) (hB : B ≤ l) (hl : W.heap[l]? = some o) (ho : o.isCells = false) : I (W.putObj l o') :=
  h W _ (some l) hi (grownBy_putObj' W l o') (fun r e => by cases e; exact ⟨hB, o, hl, ho⟩)
theorem Lasts.grow {B : Nat} {I : World → Prop} (h : Lasts B I) {W W' : World} (hi : I W) (hb : Below W.heap.size W W') : I W' :=
  h W W' none hi ⟨hb.os, hb.tape, hb.output, hb.size, fun k hk _ => hb.block k hk⟩ (fun r e => by cases e)
theorem Lasts.and {B : Nat} {I I' : World → Prop} (h : Lasts B I) (h' : Lasts B I') : Lasts B (fun W => I W ∧ I' W) := fun W W' row hi hg hr => ⟨h W W' row hi.1 hg hr, h' W W' row hi.2 hg hr⟩
theorem lasts_pure (B : Nat) (p : Prop) : Lasts B (fun _ => p) := fun _ _ _ hi _ _ => hi
theorem lasts_size (B m : Nat) : Lasts B (fun W => m ≤ W.heap.size) := fun _ _ _ hi hg _ => Nat.le_trans hi hg.size
theorem lasts_below (B n₀ : Nat) (w : World) (hB : n₀ ≤ B) (hw : n₀ ≤ w.heap.size) : Lasts B (fun W => Below n₀ w W) := fun _ _ _ hi hg hr =>
  hi.grown hg (Nat.le_trans hw hi.size) (fun k e => Nat.le_trans hB (hr k e).1)
theorem lasts_row (B g : Nat) (E : TypeId) (vs : List Value) : Lasts B (fun W => Row W g E vs) := fun W W' row hi hg hr => by
  show W'.heap[g]? = _
  rw [hg.block g (Row.lt hi) (fun e => by
    obtain ⟨_, o, ho, hc⟩ := hr g e.symm
    rw [show W.heap[g]? = _ from hi] at ho; cases ho; cases hc)]
  exact hi
theorem lasts_cell (B : Nat) (a : Addr) (v : Value) : Lasts B (fun W => W.cell? a = some v) := fun _ _ _ hi hg hr => cell_kept hi hg (fun r e => (hr r e).2)
theorem Lasts.own {B : Nat} {β : Type} {I : β → World → Prop} (h : ∀ s, Lasts B (I s)) : OwnFrom B I := fun s W W' row hi hg hr => h s W W' row hi hg hr
/-- corner x of ps with its neighbours lies in block Bx -/
structure CornerAt (W : World) (Bx : Nat) (ps : List Pt) (x : Nat) : Prop where
  row : W.heap[Bx]? = some (.cells #[.int .i64 (pv ps x).1, .int .i64 (pv ps x).2, .int .i64 (ptAt ps x).1, .int .i64 (ptAt ps x).2, .int .i64 (nx ps x).1, .int .i64 (nx ps x).2] 76 (0, 0))
  lt : Bx < W.heap.size
  c0 : W.cell? ⟨Bx, 0, none⟩ = some (.int .i64 (pv ps x).1)
  c1 : W.cell? ⟨Bx, 1, none⟩ = some (.int .i64 (pv ps x).2)
  c2 : W.cell? ⟨Bx, 2, none⟩ = some (.int .i64 (ptAt ps x).1)
  c3 : W.cell? ⟨Bx, 3, none⟩ = some (.int .i64 (ptAt ps x).2)
  c4 : W.cell? ⟨Bx, 4, none⟩ = some (.int .i64 (nx ps x).1)
  c5 : W.cell? ⟨Bx, 5, none⟩ = some (.int .i64 (nx ps x).2)
def cornerCells (ps : List Pt) (x : Nat) : Array Value := #[.int .i64 (pv ps x).1, .int .i64 (pv ps x).2, .int .i64 (ptAt ps x).1, .int .i64 (ptAt ps x).2, .int .i64 (nx ps x).1, .int .i64 (nx ps x).2]
theorem CornerAt.new (W : World) (ps : List Pt) (x : Nat) : CornerAt (W.alloc (.cells (cornerCells ps x) 76)) W.heap.size ps x :=
  ⟨heap_alloc_new W _, by rw [size_al]; omega, by simp [cell_al, cornerCells], by simp [cell_al, cornerCells], by simp [cell_al, cornerCells], by simp [cell_al, cornerCells], by simp [cell_al, cornerCells], by simp [cell_al, cornerCells]⟩
/-- how a round's body may be left -/
def roundEnds (B b Bs : Nat) (I : List Nat → World → Prop) (Ix : Code → World → Prop) (xs : List Nat) (W : World) : Exit → Act → World → Prop
  | .normal, _, W' => KeepsFrom B W W' ∧ Keeps2 b Bs W W' ∧ I xs W'
  | .ret, _, W' => KeepsFrom B W W' ∧ Ix .ret W'
  | .exit id, _, W' => KeepsFrom B W W' ∧ Ix (.exit id) W'
  | _, _, _ => False
/-- **a range over the corners of a list of points whose variable lies in a box of its own each round** -/
theorem range_corners {g : Operand} {p0 p1 : Tmp} {assign body : Code} {Q : Exit → Act → World → Prop} {a : Act} {w : World} (n Bs b c : Nat) (hn : 1 ≤ n) (ps : List Pt) (h3 : 3 ≤ ps.length) (h12 : ps.length ≤ 12)
    (hg : a.eval g = .func (.func 97) #[] #[.pointer (some ⟨Bs, 0, none⟩)]) (hBs0 : Bs < w.heap.size)
    (hBs : w.cell? ⟨Bs, 0, none⟩ = some (.slice (some ⟨b, 0, none⟩) ps.length c)) (hc : PtsAt w b 0 ps)
    (I : List Nat → World → Prop) (Ix : Code → World → Prop) (hI : ∀ k, Lasts w.heap.size (I k)) (hIx : ∀ c, Lasts w.heap.size (Ix c)) (h0 : I [] w) (a₁ : Nat → Nat → Act)
    (hassign : ∀ (l x : Nat) (W : World) (K : Act → World → Prop), K (a₁ x W.heap.size) (W.alloc (.cells (cornerCells ps x) 76)) →
      assign.wpIn (Fence.wide.inRound l) (n - 1 - 1) Try.prog (Exit.then K (fun _ _ _ => False)) { tmps := (a.tmps.setIfInBounds p0 (.int .i64 (x : Int))).setIfInBounds p1 (.agg (cornerCells ps x)), defers := [] } W)
    (hbody : ∀ (l x Bx : Nat) (pre : List Nat) (W : World), x < ps.length → w.heap.size ≤ Bx → w.heap.size ≤ W.heap.size → CornerAt W Bx ps x → I pre W → pre.length < ps.length → (∀ y ∈ pre, y < ps.length) → body.wpIn (Fence.wide.inRound l) (n - 1 - 1) Try.prog (roundEnds w.heap.size b Bs I Ix (pre ++ [x]) W) (a₁ x Bx) W)
    (hdone : ∀ (D : Nat) (W : World), w.heap.size ≤ D → I (upto ps.length) W → W.heap[D]? = some (.deferred (some [])) → Q .normal { a with defers := { target := .collected D, args := #[] } :: a.defers } W)
    (hstop : ∀ (D : Nat) (c : Code) (W : World), w.heap.size ≤ D → Ix c W → W.heap[D]? = some (.deferred (some [])) → c.wpIn Fence.wide n Try.prog Q { a with defers := { target := .collected D, args := #[] } :: a.defers } W) :
    (Code.rangeFunc g #[p0, p1] assign body).wpIn Fence.wide n Try.prog Q a w := by
  refine wpIn_rangeFunc_ownH (F := Fence.wide) rfl hn hg trivial (enters_of Try.func97 (by kernel_rfl) rfl) (corners_stops (n - 1) Bs b c ps h3 h12 w hBs0 hBs hc)
    (fun h k => Keeps2.trans h k) (fun W l o o' hl h _ _ => Keeps2.put (Nat.lt_of_lt_of_le hc.lt hl) (Nat.lt_of_lt_of_le hBs0 hl) W o') (Below.refl _ _) (fun _ => rfl)
    (fun pre W => w.heap.size ≤ W.heap.size ∧ I (pre.map Fin.val) W) (fun c _ W => Ix c W)
    (Lasts.own (fun s => (lasts_size _ _).and (hI (s.map Fin.val)))) (fun c => Lasts.own (fun _ => hIx c)) ⟨Nat.le_refl _, h0⟩
    (fun x a' W => ∃ Bx, w.heap.size ≤ Bx ∧ CornerAt W Bx ps x.1 ∧ a' = a₁ x.1 Bx)
    ?_ ?assign ?body ?done ?stop
  case done =>
    rintro D xs W hD hxs ⟨_, hi⟩ hK
    rw [hxs] at hi
    exact hdone D W hD hi hK
  case stop =>
    rintro D c pre W hD _ hi hK
    exact hstop D c W hD hi hK
  case assign =>
    rintro l pre x W K ⟨hs, hi⟩ hK
    have h := hassign l x.1 W K (hK _ _ ((KeepsOthers.alloc _ _).from _) (Keeps2.of_below ((Below.refl _ _).alloc (Nat.le_refl _) _) (Nat.lt_of_lt_of_le hc.lt hs) (Nat.lt_of_lt_of_le hBs0 hs)) ⟨Nat.le_trans hs (by simp), (hI _).grow hi ((Below.refl _ _).alloc (Nat.le_refl _) _)⟩ ⟨W.heap.size, hs, CornerAt.new W ps x.1, rfl⟩)
    have e : (#[p0, p1].zip (encC ps x.1)).foldl (fun t (p, v) => t.setIfInBounds p v) a.tmps = (a.tmps.setIfInBounds p0 (.int .i64 (x.1 : Int))).setIfInBounds p1 (.agg (cornerCells ps x.1)) := by
      simp [encC, cornerCells]
    rw [e]; exact h
  case body =>
    rintro l pre x a' W hl hr ⟨hs, hi⟩ ⟨Bx, hBx, hcx, rfl⟩ hlen
    refine wpIn_mono (hbody l x.1 Bx (pre.map Fin.val) W x.2 hBx hs hcx hi (by simpa using hlen) (fun y hy => by
      obtain ⟨z, _, rfl⟩ := List.mem_map.1 hy; exact z.2)) ?_
    rintro e a3 W3 hp
    cases e with
    | normal => exact ⟨hp.1, hp.2.1, Nat.le_trans hs hp.2.1.1, by rw [List.map_append]; exact hp.2.2⟩
    | ret => exact hp
    | exit id => exact hp
    | goto t => exact hp.elim
    | panic ch => exact hp.elim
    | outgrown => exact hp.elim
  · intro x a' s W W' row hs hg hr
    obtain ⟨Bx, h1, h2, h3⟩ := hs
    have k := fun (a : Addr) (v : Value) (h : W.cell? a = some v) => lasts_cell w.heap.size a v W W' row h hg hr
    exact ⟨Bx, h1, ⟨lasts_row w.heap.size Bx 76 [.int .i64 (pv ps x.1).1, .int .i64 (pv ps x.1).2, .int .i64 (ptAt ps x.1).1, .int .i64 (ptAt ps x.1).2, .int .i64 (nx ps x.1).1, .int .i64 (nx ps x.1).2] W W' row h2.row hg hr, Nat.lt_of_lt_of_le h2.lt hg.size, k _ _ h2.c0, k _ _ h2.c1, k _ _ h2.c2, k _ _ h2.c3, k _ _ h2.c4, k _ _ h2.c5⟩, h3⟩
end Go.Proofs.Ytlehddifcjklgaa
namespace Go.Proofs.Ytlehddifcjklgaa
open Go.RowKit Go.Shelf
attribute [local go_sem] Oper.semAt_some
theorem below_put {B l : Nat} {w W : World} {o : Obj} (h : Below B w W) (hl : B ≤ l) (hw : W.heap[l]? = some o) (o' : Obj) : Below B w (W.putObj l o') :=
  h.grown (row := some l) (grownBy_putObj' W l o') (Nat.le_of_lt (Nat.lt_of_le_of_lt hl (Array.getElem?_eq_some_iff.1 hw).1)) (fun k e => by cases e; exact hl)
theorem chk_true {ps : List Pt} (h : areP ps = true) (h2 : ∀ x ∈ upto ps.length, sideAt ps x = true) : chk ps = true := by
  unfold chk; rw [h, Bool.true_and, List.all_eq_true]; exact h2
theorem chk_false {ps : List Pt} {x : Nat} (h : x < ps.length) (h2 : sideAt ps x = false) : chk ps = false := by
  unfold chk; rw [Bool.and_eq_false_iff]; right
  rw [List.all_eq_false]; exact ⟨x, List.mem_range.2 h, by simp [h2]⟩
theorem ptAt_bd {ps : List Pt} (h : areP ps = true) {i : Nat} (hi : i < ps.length) : Bd 20 (ptAt ps i).1 ∧ Bd 20 (ptAt ps i).2 := by
  rw [ptAt_lt hi]; exact inR_bd h hi
theorem nx_bd {ps : List Pt} (h : areP ps = true) {i : Nat} (hi : i < ps.length) : Bd 20 (nx ps i).1 ∧ Bd 20 (nx ps i).2 :=
  ptAt_bd h (Nat.mod_lt _ (by omega))
theorem pv_bd {ps : List Pt} (h : areP ps = true) {i : Nat} (hi : i < ps.length) : Bd 20 (pv ps i).1 ∧ Bd 20 (pv ps i).2 :=
  ptAt_bd h (Nat.mod_lt _ (by omega))

set_option maxRecDepth 100000 in
set_option maxHeartbeats 1000000 in
theorem check_in (ps : List Pt) (b c : Nat) (w : World) (hp : PtsAt w b 0 ps) (ha : areP ps = true) :
    CallsIn Fence.wide 3 Try.prog 20 #[.slice (some ⟨b, 0, none⟩) ps.length c] w fun e w' => e = .returned (.int .i64 (if chk ps then 0 else 30)) ∧ Below w.heap.size w w' := by
  obtain ⟨h3, h12⟩ := areP_len ha
  have HA := Lib.hid ha
  obtain ⟨E, hE⟩ : ∃ E : Int, E = if chk ps then 0 else 30 := ⟨_, rfl⟩
  rw [← hE]
  have HE := Lib.hid hE
  clear hE
  refine callsIn_of_wp_marks Try.func20 rfl trivial ?_ rfl
  simp only [Try.ntmps20, List.size_toArray, List.length_cons, List.length_nil, Nat.reduceAdd, Nat.reduceSub, Array.replicate_succ, Array.replicate_zero, List.push_toArray, List.append_toArray, List.nil_append, List.cons_append]
  gi_wp2_with fail
  refine ⟨trivial, ?_⟩
  obtain ⟨W0, hW0⟩ : ∃ W0, W0 = (w.alloc (.cells #[.slice (some ⟨b, 0, none⟩) ps.length c] 22)).alloc (.cells #[.int .i64 0] 25) := ⟨_, rfl⟩
  have B0 : Below w.heap.size w W0 := by rw [hW0]; exact ((Below.refl w.heap.size w).alloc (Nat.le_refl _) _).alloc (by simp) _
  have s0 : W0.heap.size = w.heap.size + 2 := by rw [hW0]; simp
  have x0 : W0.cell? ⟨w.heap.size, 0, none⟩ = some (.slice (some ⟨b, 0, none⟩) ps.length c) := by rw [hW0]; simp [cell_al]
  have x1 : W0.cell? ⟨w.heap.size + 1, 0, none⟩ = some (.int .i64 0) := by rw [hW0]; simp [cell_al]
  have x2 : W0.frozen? ⟨w.heap.size + 1, 0, none⟩ = false := by rw [hW0]; simp [frozen_al]
  rw [← hW0]
  clear hW0
  refine (callsIn_wide.2 (arePoints_any ps b 0 c W0 (hp.grow B0) (by omega))).mono ?_
  rintro e w1 ⟨rfl, hb1⟩
  have y0 := below_at hb1 (by omega) x0
  rw [HA.out]
  gi_wp2_with fail
  refine ⟨trivial, ?_⟩
  refine (callsIn_wide.2 (corners_any _ _ _ _)).mono ?_
  rintro e w2 ⟨rfl, rfl⟩
  obtain ⟨V, hV⟩ : ∃ V, V = w1.alloc (.cells #[.slice (some ⟨b, 0, none⟩) ps.length c] 22) := ⟨_, rfl⟩
  have BV : Below w.heap.size w V := by rw [hV]; exact Below.al (Below.andThen B0 hb1 (Nat.le_refl _)) (Nat.le_refl _) _
  have BV0 : Below W0.heap.size W0 V := by rw [hV]; exact Below.al hb1 (Nat.le_refl _) _
  have sV : V.heap.size = w1.heap.size + 1 := by rw [hV]; simp
  have s1 := hb1.size
  have z0 := below_at BV0 (by omega) x0
  have z1 := below_at BV0 (by omega) x1
  have z2 := (BV0.frozen (p := ⟨w.heap.size + 1, 0, none⟩) (show w.heap.size + 1 < W0.heap.size by omega)).trans x2
  have zb : V.cell? ⟨w1.heap.size, 0, none⟩ = some (.slice (some ⟨b, 0, none⟩) ps.length c) := by rw [hV]; simp [cell_al]
  have zp := hp.grow BV
  rw [← hV]
  have l0 : w.heap.size < V.heap.size := by omega
  have l1 : w.heap.size + 1 < V.heap.size := by omega
  have l2 : w1.heap.size < V.heap.size := by omega
  have BVh := Lib.hid BV
  have ZP := Lib.hid zp
  clear hV BV0 BV B0 s0 x0 x1 x2 y0 hb1 sV s1 hp zp
  gi_wp2_with fail
  refine range_corners 3 w1.heap.size b c (by omega) ps h3 h12 rfl l2 zb ZP.out
    (fun pre W => (∀ x ∈ pre, sideAt ps x = true) ∧ Below V.heap.size V W)
    (fun c W => (c = .ret ∧ chk ps = false) ∧ (W.cell? ⟨w.heap.size + 1, 0, none⟩ = some (.int .i64 30) ∧ Below w.heap.size w W))
    (fun _ => (lasts_pure _ _).and (lasts_below _ _ _ (Nat.le_refl _) (Nat.le_refl _)))
    (fun _ => (lasts_pure _ _).and ((lasts_cell _ _ _).and (lasts_below _ _ _ (Nat.le_of_lt l0) (Nat.le_refl _))))
    ⟨fun _ h => by simp at h, Below.refl _ _⟩
    (fun x Bx => { tmps := #[.slice (some ⟨b, 0, none⟩) ps.length c, .pointer (some ⟨w.heap.size, 0, none⟩), .pointer (some ⟨w.heap.size + 1, 0, none⟩), undef, .pointer (some ⟨Bx, 0, none⟩), .slice (some ⟨b, 0, none⟩) ps.length c, .bool true, .bool false, .slice (some ⟨b, 0, none⟩) ps.length c, .func (.func 97) #[] #[.pointer (some ⟨w1.heap.size, 0, none⟩)], .int .i64 (x : Int), .agg (cornerCells ps x), undef, undef, undef, undef, undef, undef, undef], defers := [] }) ?assign ?body ?done ?stop
  case assign =>
    intro l x W K hK
    simp only [cornerCells, List.setIfInBounds_toArray, List.set_cons_succ, List.set_cons_zero] at hK ⊢
    gi_wp2
    exact hK
  case body =>
    rintro l x Bx pre W hx hBx hW hcx ⟨hpre, hB⟩ _ _
    have c0 := below_at hB l0 z0
    have c1 := below_at hB l1 z1
    have c2 := (hB.frozen (p := ⟨w.heap.size + 1, 0, none⟩) l1).trans z2
    have q2 := hcx.c2
    have q3 := hcx.c3
    have q4 := hcx.c4
    have q5 := hcx.c5
    have qp := Lib.hid (ZP.out.grow hB)
    have HB := Lib.hid hB
    have HX := Lib.hid hx
    have n1 := Lib.hid (ptAt_bd HA.out hx)
    have n2 := Lib.hid (nx_bd HA.out hx)
    have HP := Lib.hid hpre
    have fin : sideAt ps x = isSide ps ((ptAt ps x).1, (ptAt ps x).2) ((nx ps x).1, (nx ps x).2) := rfl
    have Fin := Lib.hid fin
    clear hB hx hcx hpre fin z0 z1 z2 zb
    generalize ptAt ps x = pa at *
    generalize nx ps x = pb at *
    gi_wp2_with fail
    refine ⟨trivial, ?_⟩
    refine (CallsIn.inRound l (callsIn_wide.2 (isSide_any ps b 0 c _ _ _ _ W qp.out HA.out n1.out.1 n1.out.2 n2.out.1 n2.out.2))).mono ?_
    rintro e w3 ⟨rfl, hb3⟩
    have HB3 := Lib.hid (Below.andThen HB.out hb3 (Nat.le_refl _))
    have KF := Lib.hid (show KeepsFrom V.heap.size W w3 from KeepsFrom.of_grownBy (row := none) ⟨hb3.os, hb3.tape, hb3.output, hb3.size, fun k hk _ => hb3.block k hk⟩ (fun r e => by cases e))
    have K2 := Lib.hid (Keeps2.of_below hb3 (b := b) (Bs := w1.heap.size) qp.out.lt (Nat.lt_of_lt_of_le l2 HB.out.size))
    have c1' := below_at hb3 (Nat.lt_of_lt_of_le l1 HB.out.size) c1
    have c2' := (hb3.frozen (p := ⟨w.heap.size + 1, 0, none⟩) (show w.heap.size + 1 < W.heap.size from Nat.lt_of_lt_of_le l1 HB.out.size)).trans c2
    clear hb3 c0 c1 c2 q2 q3 q4 q5
    cases hs : isSide ps (pa.1, pa.2) (pb.1, pb.2)
    · have HS := Lib.hid hs
      clear hs
      gi_wp2_with fail
      refine ⟨KF.out.trans ((KeepsOthers.setCell _ _ _).from _), ⟨rfl, chk_false HX.out (by rw [Fin.out, HS.out])⟩, ?_, ?_⟩
      · exact World.cell?_setCell_same' _ _ _ (by rw [c1']; rfl)
      · exact (BVh.out.trans (HB3.out.mono (Nat.le_of_lt l0))).setCell (p := ⟨w.heap.size + 1, 0, none⟩) (Nat.le_succ _) _
    · have HS := Lib.hid hs
      clear hs
      gi_wp2_with fail
      refine ⟨KF.out, K2.out, fun y hy => ?_, HB3.out⟩
      rcases List.mem_append.1 hy with h | h
      · exact HP.out y h
      · simp at h; subst h; rw [Fin.out, HS.out]
  case done =>
    rintro D W hD ⟨hpre, hB⟩ hK
    have c1 := below_at hB l1 z1
    have c2 := (hB.frozen (p := ⟨w.heap.size + 1, 0, none⟩) l1).trans z2
    have HB := Lib.hid hB
    have HK := Lib.hid hK
    have HC := Lib.hid (chk_true HA.out hpre)
    have HD := Lib.hid hD
    clear hB hK hpre z0 z1 z2 zb hD
    gi_wp2_with fail
    refine ⟨by simp, .inl ⟨_, _, rfl, run_takeDeferred ((KeepsOthers.setCell _ _ _).same D _ HK.out rfl), ?_⟩⟩
    obtain rfl : E = 0 := by rw [HE.out, HC.out]; rfl
    have hc1 : ((W.setCell ⟨w.heap.size + 1, 0, none⟩ (.int .i64 0)).putObj D (.deferred none)).cell? ⟨w.heap.size + 1, 0, none⟩ = some (.int .i64 0) :=
      lasts_cell V.heap.size _ _ _ _ (some D) (World.cell?_setCell_same' _ _ _ (by rw [c1]; rfl)) (grownBy_putObj' _ D _) (fun r e => by
        cases e; exact ⟨HD.out, _, (KeepsOthers.setCell _ _ _).same D _ HK.out rfl, rfl⟩)
    refine ⟨.int .i64 0, by simp [results, Try.results20, go_sem, hc1], rfl, ?_⟩
    have h1 : Below w.heap.size w (W.setCell ⟨w.heap.size + 1, 0, none⟩ (.int .i64 0)) := (BVh.out.trans (HB.out.mono (Nat.le_of_lt l0))).setCell (p := ⟨w.heap.size + 1, 0, none⟩) (Nat.le_succ _) _
    exact below_put h1 (Nat.le_trans (Nat.le_of_lt l0) HD.out) ((KeepsOthers.setCell _ _ _).same D _ HK.out rfl) _
  case stop =>
    rintro D c W hD ⟨⟨rfl, hc⟩, h1, hB⟩ hK
    have HB := Lib.hid hB
    have HK := Lib.hid hK
    have HC := Lib.hid hc
    have HD := Lib.hid hD
    clear hB hK hc z0 z1 z2 zb hD
    gi_wp2_with fail
    refine ⟨by simp, .inl ⟨_, _, rfl, run_takeDeferred HK.out, ?_⟩⟩
    obtain rfl : E = 30 := by rw [HE.out, HC.out]; rfl
    have hc1 : (W.putObj D (.deferred none)).cell? ⟨w.heap.size + 1, 0, none⟩ = some (.int .i64 30) :=
      lasts_cell V.heap.size _ _ _ _ (some D) h1 (grownBy_putObj' _ D _) (fun r e => by cases e; exact ⟨HD.out, _, HK.out, rfl⟩)
    refine ⟨.int .i64 30, by simp [results, Try.results20, go_sem, hc1], rfl, ?_⟩
    exact below_put HB.out (Nat.le_trans (Nat.le_of_lt l0) HD.out) HK.out _

set_option maxHeartbeats 400000 in
theorem check_bad (ps : List Pt) (v : Option Addr) (c : Nat) (w : World) (_hl : ps.length ≤ 1000000) (_ha : areP ps = false)
    (hp : ∀ W, Below w.heap.size w W → Calls Try.prog 62 #[.slice v ps.length c] W fun e w' => e = .returned (.bool false) ∧ Below W.heap.size W w') :
    Calls Try.prog 20 #[.slice v ps.length c] w fun e w' => e = .returned (.int .i64 30) ∧ Below w.heap.size w w' := by
  have HP := Lib.hid hp
  clear hp
  go_enter Try.func20, Try.ntmps20
  go_wp2_with fail
  obtain ⟨W0, hW0⟩ : ∃ W0, W0 = (w.alloc (.cells #[.slice v ps.length c] 22)).alloc (.cells #[.int .i64 0] 25) := ⟨_, rfl⟩
  have B0 : Below w.heap.size w W0 := by rw [hW0]; exact ((Below.refl w.heap.size w).alloc (Nat.le_refl _) _).alloc (by simp) _
  have s0 : W0.heap.size = w.heap.size + 2 := by rw [hW0]; simp
  have x1 : W0.cell? ⟨w.heap.size + 1, 0, none⟩ = some (.int .i64 0) := by rw [hW0]; simp [cell_al]
  have x2 : W0.frozen? ⟨w.heap.size + 1, 0, none⟩ = false := by rw [hW0]; simp [frozen_al]
  rw [← hW0]
  clear hW0
  refine (HP.out W0 B0).mono ?_
  rintro e w1 ⟨rfl, hb1⟩
  have z1 := below_at hb1 (by omega) x1
  have z2 := (hb1.frozen (p := ⟨w.heap.size + 1, 0, none⟩) (show w.heap.size + 1 < W0.heap.size by omega)).trans x2
  have HB := Lib.hid (Below.andThen B0 hb1 (Nat.le_refl _))
  clear hb1 B0 s0 x1 x2
  go_wp2_with fail
  refine bodyPost_ret (v := .int .i64 30) ?_ rfl ⟨rfl, HB.out.setCell (p := ⟨w.heap.size + 1, 0, none⟩) (Nat.le_succ _) _⟩
  have h1 : (w1.setCell ⟨w.heap.size + 1, 0, none⟩ (.int .i64 30)).cell? ⟨w.heap.size + 1, 0, none⟩ = some (.int .i64 30) := World.cell?_setCell_same' _ _ _ (by rw [z1]; rfl)
  simp [results, Try.results20, go_sem, h1]
/-- **Check, of whatever points** -/
theorem check_any (ps : List Pt) (b c : Nat) (w : World) (hp : PtsAt w b 0 ps) (hl : ps.length ≤ 1000000) :
    Calls Try.prog 20 #[.slice (some ⟨b, 0, none⟩) ps.length c] w fun e w' => e = .returned (.int .i64 (if chk ps then 0 else 30)) ∧ Below w.heap.size w w' := by
  cases ha : areP ps with
  | true => exact callsIn_wide.1 (check_in ps b c w hp ha)
  | false =>
    have e : chk ps = false := by unfold chk; rw [ha]; rfl
    rw [e]
    refine check_bad ps _ c w hl ha (fun W hb => ?_)
    have := arePoints_any ps b 0 c W (hp.grow hb) hl
    rw [ha] at this; exact this
/-- **Check, of nil** -/
theorem check_nil (w : World) :
    Calls Try.prog 20 #[.slice none 0 0] w fun e w' => e = .returned (.int .i64 30) ∧ Below w.heap.size w w' :=
  check_bad [] none 0 w (by simp) rfl (fun W _ => arePoints_short [] none 0 W (by simp) (by simp))
end Go.Proofs.Ytlehddifcjklgaa
namespace Go.Proofs.Ytlehddifcjklgaa
open Go.RowKit Go.Shelf
attribute [local go_sem] Oper.semAt_some
theorem two_set {W : World} {b : Nat} {x y x' y' : Value} (h0 : W.cell? ⟨b, 0, none⟩ = some x') (h1 : W.cell? ⟨b, 1, none⟩ = some y') :
    ((W.setCell ⟨b, 0, none⟩ x).setCell ⟨b, 1, none⟩ y).cell? ⟨b, 0, none⟩ = some x ∧ ((W.setCell ⟨b, 0, none⟩ x).setCell ⟨b, 1, none⟩ y).cell? ⟨b, 1, none⟩ = some y := by
  refine ⟨?_, ?_⟩
  · exact (World.cell?_setCell_other _ _ _ _ (by simp)).trans (World.cell?_setCell_same _ _ _ h0)
  · exact World.cell?_setCell_same _ _ _ (u := y') ((World.cell?_setCell_other _ _ _ _ (by simp)).trans h1)
set_option maxHeartbeats 400000 in
theorem whole_any (x : Int) (w : World) :
    Calls Try.prog 78 #[.int .i64 x] w fun e w' => e = .returned (.agg #[.int .i64 x, .int .i64 1]) ∧ Below w.heap.size w w' := by
  go_enter Try.func78, Try.ntmps78
  go_wp2_with fail
  exact bodyPost_ret (v := .agg #[.int .i64 x, .int .i64 1]) (by simp [results, Try.results78, go_sem]) rfl ⟨rfl, (Below.refl _ _).alloc (Nat.le_refl _) _⟩
theorem gcdI_pos {n d : Int} (h : 0 < d) : 0 < gcdI n d := by
  unfold gcdI
  have : Int.gcd n d ≠ 0 := by
    intro e
    rw [Int.gcd_eq_zero_iff] at e
    omega
  omega

set_option maxHeartbeats 400000 in
theorem fractionOf64_any (x d : Int) (w : World) (hx : Bd 4000000000000000000 x) (hd : Bd 4000000000000000000 d) (h0 : 0 < d) :
    Calls Try.prog 79 #[.int .i64 x, .int .i64 d] w fun e w' => e = .returned (.agg #[.int .i64 (frac x d).1, .int .i64 (frac x d).2]) ∧ Below w.heap.size w w' := by
  have g0 := gcdI_pos (n := x) h0
  have g1 : ¬ (gcdI x d = 0) := by omega
  have g2 : (gcdI x d == 0) = false := beq_eq_false_iff_ne.2 g1
  have e1 : IntKind.i64.wrap (x.tdiv (gcdI x d)) = x.tdiv (gcdI x d) := i64_bd hx.tdiv (by omega)
  have e2 : IntKind.i64.wrap (d.tdiv (gcdI x d)) = d.tdiv (gcdI x d) := i64_bd hd.tdiv (by omega)
  have fin : frac x d = (x.tdiv (gcdI x d), d.tdiv (gcdI x d)) := rfl
  have Fin := Lib.hid fin
  have G := Lib.hid (gcd64_any x d)
  have HX := Lib.hid hx
  have HD := Lib.hid hd
  clear fin hx hd
  generalize gcdI x d = g at *
  go_enter Try.func79, Try.ntmps79
  go_wp2_with fail
  refine (G.out _ HX.out HD.out).mono ?_
  rintro e w1 ⟨rfl, n, rfl⟩
  go_wp2_with fail
  go_region
  go_wp2_with fail
  have c0 : ((w.alloc (.cells #[.int .i64 0, .int .i64 0] 88)).drewN (n + 1)).cell? ⟨w.heap.size, 0, none⟩ = some (.int .i64 0) := by simp
  have c1 : ((w.alloc (.cells #[.int .i64 0, .int .i64 0] 88)).drewN (n + 1)).cell? ⟨w.heap.size, 1, none⟩ = some (.int .i64 0) := by simp
  obtain ⟨q0, q1⟩ := two_set (x := .int .i64 (x.tdiv g)) (y := .int .i64 (d.tdiv g)) c0 c1
  rw [Fin.out]
  refine bodyPost_ret (v := .agg #[.int .i64 (x.tdiv g), .int .i64 (d.tdiv g)]) (by simp [results, Try.results79, go_sem, q0, q1]) rfl ⟨rfl, ?_⟩
  exact ((below_drewN ((Below.refl w.heap.size w).alloc (Nat.le_refl _) _) _).setCell (p := ⟨w.heap.size, 0, none⟩) (Nat.le_refl _) _).setCell (p := ⟨w.heap.size, 1, none⟩) (Nat.le_refl _) _

set_option maxHeartbeats 400000 in
theorem fractionOf_any (x d : Int) (w : World) (hx : Bd 4000000000000000000 x) (hd : Bd 4000000000000000000 d) (h0 : 0 < d) :
    Calls Try.prog 96 #[.int .i64 x, .int .i64 d] w fun e w' => e = .returned (.agg #[.int .i64 (frac x d).1, .int .i64 (frac x d).2]) ∧ Below w.heap.size w w' := by
  have g0 := gcdI_pos (n := x) h0
  have g1 : ¬ (gcdI x d = 0) := by omega
  have g2 : (gcdI x d == 0) = false := beq_eq_false_iff_ne.2 g1
  have e1 : IntKind.i64.wrap (x.tdiv (gcdI x d)) = x.tdiv (gcdI x d) := i64_bd hx.tdiv (by omega)
  have e2 : IntKind.i64.wrap (d.tdiv (gcdI x d)) = d.tdiv (gcdI x d) := i64_bd hd.tdiv (by omega)
  have fin : frac x d = (x.tdiv (gcdI x d), d.tdiv (gcdI x d)) := rfl
  have Fin := Lib.hid fin
  have G := Lib.hid (gcd_any x d)
  have HX := Lib.hid hx
  have HD := Lib.hid hd
  clear fin hx hd
  generalize gcdI x d = g at *
  go_enter Try.func96, Try.ntmps96
  go_wp2_with fail
  refine (G.out _ HX.out HD.out).mono ?_
  rintro e w1 ⟨rfl, n, rfl⟩
  go_wp2_with fail
  go_region
  go_wp2_with fail
  have c0 : ((w.alloc (.cells #[.int .i64 0, .int .i64 0] 88)).drewN (n + 1)).cell? ⟨w.heap.size, 0, none⟩ = some (.int .i64 0) := by simp
  have c1 : ((w.alloc (.cells #[.int .i64 0, .int .i64 0] 88)).drewN (n + 1)).cell? ⟨w.heap.size, 1, none⟩ = some (.int .i64 0) := by simp
  obtain ⟨q0, q1⟩ := two_set (x := .int .i64 (x.tdiv g)) (y := .int .i64 (d.tdiv g)) c0 c1
  rw [Fin.out]
  refine bodyPost_ret (v := .agg #[.int .i64 (x.tdiv g), .int .i64 (d.tdiv g)]) (by simp [results, Try.results96, go_sem, q0, q1]) rfl ⟨rfl, ?_⟩
  exact ((below_drewN ((Below.refl w.heap.size w).alloc (Nat.le_refl _) _) _).setCell (p := ⟨w.heap.size, 0, none⟩) (Nat.le_refl _) _).setCell (p := ⟨w.heap.size, 1, none⟩) (Nat.le_refl _) _

set_option maxHeartbeats 400000 in
theorem less_any (a b c d : Int) (w : World) (h1 : Bd 4000000000000000000 (a * d)) (h2 : Bd 4000000000000000000 (c * b)) :
    Calls Try.prog 75 #[.agg #[.int .i64 a, .int .i64 b], .agg #[.int .i64 c, .int .i64 d]] w fun e w' => e = .returned (.bool (lessF (a, b) (c, d))) ∧ Below w.heap.size w w' := by
  have e1 := i64_bd h1 (by omega)
  have e2 := i64_bd h2 (by omega)
  have fin : lessF (a, b) (c, d) = decide (a * d < c * b) := rfl
  have Fin := Lib.hid fin
  clear fin h1 h2
  go_enter Try.func75, Try.ntmps75
  go_wp2_with fail
  go_ret
  exact ⟨ret_bool (by rw [Fin.out]), ((Below.refl w.heap.size w).alloc (Nat.le_refl _) _).alloc (by simp) _⟩

set_option maxHeartbeats 800000 in
theorem within_any (a b lo hi : Int) (w : World) (ha : Bd 1000000000000000000 a) (hb : Bd 1000000000 b) (hl : Bd 1000000000 lo) (hh : Bd 1000000000 hi) :
    Calls Try.prog 100 #[.agg #[.int .i64 a, .int .i64 b], .agg #[.int .i64 lo, .int .i64 1], .agg #[.int .i64 hi, .int .i64 1]] w fun e w' => e = .returned (.bool (withinF (a, b) (lo, 1) (hi, 1))) ∧ Below w.heap.size w w' := by
  have k1 := Lib.hid (show Bd 4000000000000000000 (a * 1) by rw [Int.mul_one]; exact ha.mono (by omega))
  have k2 := Lib.hid ((hl.mul hb).mono (C := 4000000000000000000) (by omega))
  have k3 := Lib.hid ((hh.mul hb).mono (C := 4000000000000000000) (by omega))
  have fin : withinF (a, b) (lo, 1) (hi, 1) = (!lessF (a, b) (lo, 1) && !lessF (hi, 1) (a, b)) := rfl
  have Fin := Lib.hid fin
  clear fin ha hb hl hh
  go_enter Try.func100, Try.ntmps100
  go_wp2_with fail
  obtain ⟨W0, hW0⟩ : ∃ W0, W0 = ((w.alloc (.cells #[.int .i64 a, .int .i64 b] 88)).alloc (.cells #[.int .i64 lo, .int .i64 1] 88)).alloc (.cells #[.int .i64 hi, .int .i64 1] 88) := ⟨_, rfl⟩
  have B0 := Lib.hid (show Below w.heap.size w W0 by rw [hW0]; exact ((((Below.refl w.heap.size w).alloc (Nat.le_refl _) _).alloc (by simp) _).alloc (by simp; omega) _))
  have sz := Lib.hid (show W0.heap.size = w.heap.size + 3 by rw [hW0]; simp)
  have P : Hid (∀ W, Below W0.heap.size W0 W → W.cell? ⟨w.heap.size, 0, none⟩ = some (.int .i64 a) ∧ W.cell? ⟨w.heap.size, 1, none⟩ = some (.int .i64 b) ∧ W.cell? ⟨w.heap.size + 1, 0, none⟩ = some (.int .i64 lo) ∧ W.cell? ⟨w.heap.size + 1, 1, none⟩ = some (.int .i64 1) ∧ W.cell? ⟨w.heap.size + 2, 0, none⟩ = some (.int .i64 hi) ∧ W.cell? ⟨w.heap.size + 2, 1, none⟩ = some (.int .i64 1)) := Lib.hid (fun W h => by
    have hsz := sz.out
    refine ⟨below_at h (by omega) ?_, below_at h (by omega) ?_, below_at h (by omega) ?_, below_at h (by omega) ?_, below_at h (by omega) ?_, below_at h (by omega) ?_⟩ <;> (rw [hW0]; simp [cell_al] <;> (intro h; omega)))
  rw [← hW0]
  clear hW0
  obtain ⟨p0, p1, p2, p3, p4, p5⟩ := P.out W0 (Below.refl _ _)
  have T0 := Lib.hid (Below.refl W0.heap.size W0)
  refine (less_any a b lo 1 W0 k1.out k2.out).mono ?_
  rintro e w1 ⟨rfl, hb⟩
  have T1 := Lib.hid (Below.andThen T0.out hb (Nat.le_refl _))
  clear hb T0 p0 p1 p2 p3 p4 p5
  obtain ⟨p0, p1, p2, p3, p4, p5⟩ := P.out w1 T1.out
  cases h1 : lessF (a, b) (lo, 1)
  · have H1 := Lib.hid h1
    clear h1
    go_wp2_with fail
    refine (less_any hi 1 a b _ k3.out k1.out).mono ?_
    rintro e w2 ⟨rfl, hb⟩
    have T2 := Lib.hid (Below.andThen T1.out hb (Nat.le_refl _))
    clear hb
    go_wp2_with fail
    go_ret
    exact ⟨ret_bool (by rw [Fin.out, H1.out]; rfl), Below.andThen B0.out T2.out (Nat.le_refl _)⟩
  · have H1 := Lib.hid h1
    clear h1
    go_wp2_with fail
    go_ret
    exact ⟨ret_bool (by rw [Fin.out, H1.out]; rfl), Below.andThen B0.out T1.out (Nat.le_refl _)⟩

set_option maxHeartbeats 800000 in
theorem plus_any (a b c d : Int) (w : World) (h1 : Bd 1000000000000000000 (a * d)) (h2 : Bd 1000000000000000000 (c * b)) (h3 : Bd 4000000000000000000 (b * d)) (h0 : 0 < b * d) :
    Calls Try.prog 95 #[.agg #[.int .i64 a, .int .i64 b], .agg #[.int .i64 c, .int .i64 d]] w fun e w' => e = .returned (.agg #[.int .i64 (frac (a * d + c * b) (b * d)).1, .int .i64 (frac (a * d + c * b) (b * d)).2]) ∧ Below w.heap.size w w' := by
  have h4 := (h1.add h2)
  have e1 := i64_bd h1 (by omega)
  have e2 := i64_bd h2 (by omega)
  have e3 := i64_bd h3 (by omega)
  have e4 := i64_bd h4 (by omega)
  have k1 := Lib.hid (h4.mono (C := 4000000000000000000) (by omega))
  have k2 := Lib.hid h3
  have k3 := Lib.hid h0
  clear h1 h2 h3 h4 h0
  obtain ⟨fn, fd, hf⟩ : ∃ fn fd, frac (a * d + c * b) (b * d) = (fn, fd) := ⟨_, _, rfl⟩
  rw [hf]
  have HF := Lib.hid hf
  clear hf
  dsimp only
  go_enter Try.func95, Try.ntmps95
  go_wp2_with fail
  obtain ⟨W0, hW0⟩ : ∃ W0, W0 = ((w.alloc (.cells #[.int .i64 a, .int .i64 b] 88)).alloc (.cells #[.int .i64 c, .int .i64 d] 88)).alloc (.cells #[.int .i64 0, .int .i64 0] 88) := ⟨_, rfl⟩
  have B0 := Lib.hid (show Below w.heap.size w W0 by rw [hW0]; exact ((((Below.refl w.heap.size w).alloc (Nat.le_refl _) _).alloc (by simp) _).alloc (by simp; omega) _))
  have sz := Lib.hid (show W0.heap.size = w.heap.size + 3 by rw [hW0]; simp)
  have P : Hid (∀ W, Below W0.heap.size W0 W → W.cell? ⟨w.heap.size, 0, none⟩ = some (.int .i64 a) ∧ W.cell? ⟨w.heap.size, 1, none⟩ = some (.int .i64 b) ∧ W.cell? ⟨w.heap.size + 1, 0, none⟩ = some (.int .i64 c) ∧ W.cell? ⟨w.heap.size + 1, 1, none⟩ = some (.int .i64 d) ∧ W.cell? ⟨w.heap.size + 2, 0, none⟩ = some (.int .i64 0) ∧ W.cell? ⟨w.heap.size + 2, 1, none⟩ = some (.int .i64 0)) := Lib.hid (fun W h => by
    have hsz := sz.out
    refine ⟨below_at h (by omega) ?_, below_at h (by omega) ?_, below_at h (by omega) ?_, below_at h (by omega) ?_, below_at h (by omega) ?_, below_at h (by omega) ?_⟩ <;> (rw [hW0]; simp [cell_al] <;> (intro h; omega)))
  have fz0 : W0.frozen? ⟨w.heap.size + 2, 0, none⟩ = false := by rw [hW0]; simp [frozen_al]
  have fz1 : W0.frozen? ⟨w.heap.size + 2, 1, none⟩ = false := by rw [hW0]; simp [frozen_al]
  rw [← hW0]
  clear hW0
  obtain ⟨p0, p1, p2, p3, p4, p5⟩ := P.out W0 (Below.refl _ _)
  have f0 : W0.frozen? ⟨w.heap.size + 2, 0, none⟩ = false := fz0
  have f1 : W0.frozen? ⟨w.heap.size + 2, 1, none⟩ = false := fz1
  have hc := fractionOf64_any _ _ W0 k1.out k2.out k3.out
  rw [HF.out] at hc
  dsimp only at hc
  refine hc.mono ?_
  rintro e w1 ⟨rfl, hb⟩
  have g0 := (hb.frozen (p := ⟨w.heap.size + 2, 0, none⟩) (show w.heap.size + 2 < W0.heap.size by have := sz.out; omega)).trans f0
  have g1 := (hb.frozen (p := ⟨w.heap.size + 2, 1, none⟩) (show w.heap.size + 2 < W0.heap.size by have := sz.out; omega)).trans f1
  have T1 := Lib.hid hb
  clear hb p0 p1 p2 p3 p4 p5 f0 f1
  obtain ⟨p0, p1, p2, p3, p4, p5⟩ := P.out w1 T1.out
  clear hc
  go_wp2_with fail
  obtain ⟨q0, q1⟩ := two_set (x := .int .i64 fn) (y := .int .i64 fd) p4 p5
  refine bodyPost_ret (v := .agg #[.int .i64 fn, .int .i64 fd]) (by simp [results, Try.results95, go_sem, q0, q1]) rfl ⟨rfl, ?_⟩
  exact ((Below.andThen B0.out T1.out (Nat.le_refl _)).setCell (p := ⟨w.heap.size + 2, 0, none⟩) (by simp) _).setCell (p := ⟨w.heap.size + 2, 1, none⟩) (by simp) _
end Go.Proofs.Ytlehddifcjklgaa
namespace Go.Proofs.Ytlehddifcjklgaa
open Go.RowKit Go.Shelf
attribute [local go_sem] Oper.semAt_some
section
variable {P : Program} {Q : Exit → Act → World → Prop}
theorem upon_then {o : Oper} {a : Act} {w : World} {next K : Act → World → Prop} (h : o.wp P a w next (Exit.then K Q)) : o.wp P a w next Q := by
  unfold Oper.wp at *
  generalize (execOp a.eval o).run P w = r at *
  cases r with
  | ok x w' => cases x <;> exact h
  | halt x w' => cases x <;> exact h
theorem wpOp_of_cut {l : List Oper} {m i : Nat} {K K' K2 : Act → World → Prop} {a : Act} {w : World} (hg : noGuardB l = true) (hi : i < m) (hm : m ≤ l.length) (hK : ∀ a w, K a w → K' a w)
    (h : wpOp P (l.take m).toArray (Exit.then K2 Q) i K a w) : wpOp P l.toArray Q i K' a w := by
  have ho : l[i]? = some l[i] := List.getElem?_eq_getElem (by omega)
  have h1 : (l.take m).toArray[i]? = some l[i] := by simp [hi]
  have h2 : l.toArray[i]? = some l[i] := by simp
  have hg1 : (l[i]'(by omega)).guard = none := by
    unfold noGuardB at hg
    rw [List.all_eq_true] at hg
    have := hg _ (List.getElem_mem (show i < l.length by omega))
    simpa using this
  unfold wpOp at *
  simp only [h1] at h
  simp only [h2]
  simp only [Region.wanted, hg1, if_true] at h ⊢
  exact h.imp (fun h => Oper.wp_mono hK (upon_then h)) (fun h => h)
/-- the operations behind the m-th come one after the other -/
theorem wpAny_tail {l : List Oper} (hd : waitsB l = true) (m : Nat) (hc : chainB l m = true) : ∀ (r k : Nat) (a : Act) (w : World), m ≤ k → k + r = l.length →
    wpOps P l.toArray Q (List.range' k r) a w → wpAny P .any l.toArray Q r (List.replicate k true ++ List.replicate r false).toArray a w
  | 0, k, a, w, hm, hk, h => by
    have h' : Q .normal a w := by simpa [wpOps] using h
    refine ⟨?_, h'⟩
    cases hr : Region.ready .any l.toArray (List.replicate k true ++ List.replicate 0 false).toArray with
    | nil => rfl
    | cons j js =>
      have hj : j ∈ Region.ready .any l.toArray (List.replicate k true ++ List.replicate 0 false).toArray := by rw [hr]; exact List.mem_cons_self
      obtain ⟨h1, o, h2, _⟩ := mem_ready.1 hj
      have hlt : j < l.length := by have := (List.getElem?_eq_some_iff.1 (by simpa using h2 : l[j]? = some o)).1; exact this
      simp [Array.getD, show j < k by omega] at h1
  | r + 1, k, a, w, hm, hk, h => by
    have hget : ∀ j d, (List.replicate k true ++ List.replicate (r + 1) false).toArray.getD j d = if j < k then true else if j < l.length then false else d := fun j d => by
      rw [getD_toArray, List.getElem?_append, List.length_replicate, List.getElem?_replicate, List.getElem?_replicate]
      by_cases h1 : j < k
      · simp [h1]
      · by_cases h2 : j < l.length
        · simp [h1, h2, show j - k < r + 1 by omega]
        · simp [h1, h2, show ¬ j - k < r + 1 by omega]
    have hw := hd
    unfold waitsB at hw
    rw [List.all_eq_true] at hw
    have hready : ∀ j, j ∈ Region.ready .any l.toArray (List.replicate k true ++ List.replicate (r + 1) false).toArray ↔ j = k := fun j => by
      rw [mem_ready]
      constructor
      · rintro ⟨h1, o, h2, h3⟩
        have h2' : l[j]? = some o := by simpa using h2
        have hlt := (List.getElem?_eq_some_iff.1 h2').1
        rw [hget] at h1
        have hjk : ¬ j < k := fun h => by simp [h] at h1
        false_or_by_contra
        rename_i hne
        have hch := hc
        unfold chainB at hch
        rw [List.all_eq_true] at hch
        have := hch j (List.mem_range.2 hlt)
        simp only [Bool.or_eq_true, decide_eq_true_eq] at this
        rcases this with h | h
        · omega
        · obtain ⟨e, he, hb, hon⟩ := onB_spec h h2'
          have := h3 e he hb
          rw [hget, hon] at this
          have h5 : ¬ j - 1 < k := by omega
          simp [h5] at this
      · rintro rfl
        have hlt : j < l.length := by omega
        refine ⟨by rw [hget]; simp [hlt], l[j], by simp [hlt], fun e he hb => ?_⟩
        have h1 := hw j (List.mem_range.2 hlt)
        rw [List.getElem?_eq_getElem hlt] at h1
        simp only [Option.map_some, Option.getD_some] at h1
        have h2 := of_decide_eq_true ((Array.all_eq_true'.1 h1) e he)
        rw [hget]; simp [h2]
    refine ⟨fun hr => ?_, fun j hj => ?_⟩
    · have := (hready k).2 rfl
      rw [hr] at this; cases this
    · obtain rfl := (hready j).1 hj
      rw [List.range'_succ, wpOps_cons] at h
      refine wpOp_mono (fun a' w' h' => ?_) h
      have := wpAny_tail hd m hc r (j + 1) a' w' (by omega) (by omega) h'
      have e : (List.replicate j true ++ List.replicate (r + 1) false).toArray.setIfInBounds j true = (List.replicate (j + 1) true ++ List.replicate r false).toArray := by
        rw [List.setIfInBounds_toArray, List.set_append, if_neg (by simp), List.replicate_succ (n := r)]
        simp [List.replicate_succ']
      rw [e]; exact this
set_option maxHeartbeats 1600000 in
/-- **a region whose first m operations all come ahead of the rest, which come one after the other** -/
theorem wpAny_cut {l : List Oper} (m : Nat) (hm : m < l.length) (hg : noGuardB l = true) (hd : waitsB l = true) (hf : feedsB l m = true) (hc : chainB l m = true) :
    ∀ (fuel : Nat) (bs : List Bool) (a : Act) (w : World), bs.length = m → (bs.filter (! ·)).length ≤ fuel →
      (∀ i o, l[i]? = some o → bs.getD i false = true → ∀ e ∈ o.after, Region.binds .any e = true → bs.getD e.on false = true) →
      wpAny P .any (l.take m).toArray (Exit.then (wpOps P l.toArray Q (List.range' m (l.length - m))) Q) fuel bs.toArray a w →
      wpAny P .any l.toArray Q (fuel + (l.length - m)) (bs ++ List.replicate (l.length - m) false).toArray a w := by
  have hw := hd
  unfold waitsB at hw
  rw [List.all_eq_true] at hw
  -- what waits for what
  have hwait : ∀ i (hi : i < l.length), ∀ e ∈ l[i].after, e.on < i := fun i hi e he => by
    have h1 := hw i (List.mem_range.2 hi)
    rw [List.getElem?_eq_getElem hi] at h1
    simp only [Option.map_some, Option.getD_some] at h1
    exact of_decide_eq_true ((Array.all_eq_true'.1 h1) e he)
  have hfeed : ∀ j, j < m → ∃ i, j < i ∧ i ≤ m ∧ ∃ o, l[i]? = some o ∧ ∃ e ∈ o.after, Region.binds .any e = true ∧ e.on = j := fun j hj => by
    have h1 := hf
    unfold feedsB at h1
    rw [List.all_eq_true] at h1
    have h2 := h1 j (List.mem_range.2 hj)
    rw [List.any_eq_true] at h2
    obtain ⟨i, hi, h3⟩ := h2
    simp only [Bool.and_eq_true, decide_eq_true_eq] at h3
    have hi2 := List.mem_range.1 hi
    exact ⟨i, h3.1, by omega, l[i]'(by omega), List.getElem?_eq_getElem (by omega), onB_spec h3.2 (List.getElem?_eq_getElem (by omega))⟩
  have hgetD : ∀ (bs : List Bool), bs.length = m → ∀ j d, (bs ++ List.replicate (l.length - m) false).toArray.getD j d = if j < m then bs.getD j false else if j < l.length then false else d := fun bs hl j d => by
    have h0 : m + (l.length - m) = l.length := by omega
    rw [getD_toArray, List.getElem?_append, hl, List.getElem?_replicate, List.getD_eq_getElem?_getD]
    by_cases h1 : j < m
    · simp [h1, show j < bs.length by omega]
    · by_cases h2 : j < l.length
      · simp [h1, h2, show j - m < l.length - m by omega]
      · simp [h1, h2, show ¬ j - m < l.length - m by omega]
  have hgetP : ∀ (bs : List Bool), bs.length = m → ∀ j d, bs.toArray.getD j d = if j < m then bs.getD j false else d := fun bs hl j d => by
    rw [getD_toArray, List.getD_eq_getElem?_getD]
    by_cases h1 : j < m
    · simp [h1, show j < bs.length by omega]
    · simp [h1, show ¬ j < bs.length by omega]
  -- the m-th waits for all
  have hall : ∀ (bs : List Bool), bs.length = m → (∀ i o, l[i]? = some o → bs.getD i false = true → ∀ e ∈ o.after, Region.binds .any e = true → bs.getD e.on false = true) →
      (∀ e ∈ (l[m]'hm).after, Region.binds .any e = true → bs.getD e.on false = true) → bs = List.replicate m true := fun bs hl hcl hmm => by
    have key : ∀ d j, m - j ≤ d → j < m → bs.getD j false = true := by
      intro d
      induction d with
      | zero => intro j h1 h2; omega
      | succ d ih =>
        intro j h1 h2
        obtain ⟨i, h3, h4, o, ho, e, he, hb, rfl⟩ := hfeed j h2
        by_cases h5 : i = m
        · subst h5
          rw [List.getElem?_eq_getElem hm] at ho; cases ho
          exact hmm e he hb
        · exact hcl i o ho (ih i (by omega) (by omega)) e he hb
    rw [List.eq_replicate_iff]
    refine ⟨hl, fun b hb => ?_⟩
    obtain ⟨j, hj, rfl⟩ := List.getElem_of_mem hb
    have := key m j (by omega) (by omega)
    simpa [hj] using this
  -- what is ready here and there
  have hrd : ∀ (bs : List Bool), bs.length = m → ∀ j, j < m → (j ∈ Region.ready .any l.toArray (bs ++ List.replicate (l.length - m) false).toArray ↔ j ∈ Region.ready .any (l.take m).toArray bs.toArray) := fun bs hl j hj => by
    have hjl : j < l.length := by omega
    have e1 : l.toArray[j]? = some l[j] := by simp [hjl]
    have e2 : (l.take m).toArray[j]? = some l[j] := by simp [hj, hjl]
    rw [mem_ready, mem_ready, hgetD bs hl, hgetP bs hl, e1, e2]
    simp only [hj, if_true, Option.some.injEq, exists_eq_left']
    constructor
    · rintro ⟨h1, h2⟩
      refine ⟨h1, fun e he hb => ?_⟩
      have := h2 e he hb
      rw [hgetD bs hl] at this
      have h3 := hwait j hjl e he
      rw [hgetP bs hl]
      simpa [show e.on < m by omega] using this
    · rintro ⟨h1, h2⟩
      refine ⟨h1, fun e he hb => ?_⟩
      have := h2 e he hb
      rw [hgetP bs hl] at this
      have h3 := hwait j hjl e he
      rw [hgetD bs hl]
      simpa [show e.on < m by omega] using this
  have hdone : ∀ (bs : List Bool), bs.length = m → (∀ i o, l[i]? = some o → bs.getD i false = true → ∀ e ∈ o.after, Region.binds .any e = true → bs.getD e.on false = true) →
      bs ≠ List.replicate m true → ∃ j, j < m ∧ j ∈ Region.ready .any (l.take m).toArray bs.toArray := fun bs hl hcl hne => by
    have hex : ∃ b ∈ bs, (!b) = true := by
      false_or_by_contra
      rename_i hno
      refine hne (List.eq_replicate_iff.2 ⟨hl, fun b hb => ?_⟩)
      cases b with
      | true => rfl
      | false => exact absurd ⟨false, hb, rfl⟩ hno
    have hlt : bs.findIdx (! ·) < bs.length := List.findIdx_lt_length.2 hex
    have hf0 : bs[bs.findIdx (! ·)] = false := by have := List.findIdx_getElem (w := hlt); simpa using this
    have hlt2 : bs.findIdx (! ·) < l.length := by omega
    refine ⟨bs.findIdx (! ·), by omega, mem_ready.2 ⟨by rw [hgetP bs hl]; simp [show bs.findIdx (! ·) < m by omega, hlt, hf0], l[bs.findIdx (! ·)], by simp [show bs.findIdx (! ·) < m by omega, hlt2], fun e he _ => ?_⟩⟩
    have h3 := hwait _ hlt2 e he
    have h4 : e.on < bs.length := by omega
    have h5 := List.not_of_lt_findIdx h3
    rw [hgetP bs hl]
    simp [show e.on < m by omega, h4]
    simpa using h5
  -- at the end of the first part
  have hend : ∀ (fuel : Nat) (a : Act) (w : World), wpAny P .any (l.take m).toArray (Exit.then (wpOps P l.toArray Q (List.range' m (l.length - m))) Q) fuel (List.replicate m true).toArray a w →
      wpAny P .any l.toArray Q (fuel + (l.length - m)) (List.replicate m true ++ List.replicate (l.length - m) false).toArray a w := fun fuel a w h => by
    have hnil : Region.ready .any (l.take m).toArray (List.replicate m true).toArray = [] := by
      cases hr : Region.ready .any (l.take m).toArray (List.replicate m true).toArray with
      | nil => rfl
      | cons j js =>
        have hj : j ∈ Region.ready .any (l.take m).toArray (List.replicate m true).toArray := by rw [hr]; exact List.mem_cons_self
        obtain ⟨h1, o, h2, _⟩ := mem_ready.1 hj
        have hlt : j < m := by
          have := (List.getElem?_eq_some_iff.1 (by simpa using h2 : (l.take m)[j]? = some o)).1
          rw [List.length_take] at this; omega
        rw [hgetP _ (by simp)] at h1
        simp [hlt] at h1
    have hQ : wpOps P l.toArray Q (List.range' m (l.length - m)) a w := by
      cases fuel with
      | zero => exact h.2
      | succ f => exact h.1 hnil
    have := wpAny_tail hd m hc (l.length - m) m a w (Nat.le_refl _) (by omega) hQ
    -- more fuel does no harm
    have more : ∀ (r d : Nat) (ls : Array Bool) (a : Act) (w : World), wpAny P .any l.toArray Q r ls a w → wpAny P .any l.toArray Q (d + r) ls a w := by
      intro r
      induction r with
      | zero =>
        intro d ls a w h
        cases d with
        | zero => exact h
        | succ d => exact ⟨fun _ => h.2, fun i hi => by rw [h.1] at hi; cases hi⟩
      | succ r ih =>
        intro d ls a w h
        exact ⟨h.1, fun i hi => wpOp_mono (fun a' w' h' => ih d _ a' w' h') (h.2 i hi)⟩
    exact more _ fuel _ _ _ this
  intro fuel
  induction fuel with
  | zero =>
    intro bs a w hl hc0 hcl h
    have hall2 : bs = List.replicate m true := by
      false_or_by_contra
      rename_i hne
      obtain ⟨j, _, hj⟩ := hdone bs hl hcl hne
      rw [h.1] at hj; cases hj
    subst hall2
    exact hend 0 a w h
  | succ fuel ih =>
    intro bs a w hl hc0 hcl h
    by_cases hall2 : bs = List.replicate m true
    · subst hall2; exact hend _ a w h
    · rw [Nat.succ_add]
      refine ⟨fun hr => ?_, fun j hj => ?_⟩
      · obtain ⟨j, hj, hj2⟩ := hdone bs hl hcl hall2
        rw [← hrd bs hl j hj, hr] at hj2; cases hj2
      · obtain ⟨h1, o, h2, h3⟩ := mem_ready.1 hj
        have h2' : l[j]? = some o := by simpa using h2
        have hjl := (List.getElem?_eq_some_iff.1 h2').1
        by_cases hjm : j < m
        · have hset : (bs ++ List.replicate (l.length - m) false).toArray.setIfInBounds j true = (bs.set j true ++ List.replicate (l.length - m) false).toArray := by
            rw [List.setIfInBounds_toArray, List.set_append, if_pos (by omega)]
          rw [hset]
          have hb : bs[j]? = some false := by
            rw [hgetD bs hl] at h1
            rw [List.getElem?_eq_getElem (by omega)]
            simp [hjm, hl] at h1
            rw [h1]
          refine wpOp_of_cut hg hjm (by omega) (fun a' w' h' => ?_) (h.2 j ((hrd bs hl j hjm).1 hj))
          refine ih (bs.set j true) a' w' (by simpa using hl) ?_ ?_ ?_
          · have := filter_set bs j hb; omega
          · intro i o' ho' hi e he hbe
            have hse : ∀ x, bs.getD x false = true → (bs.set j true).getD x false = true := fun x hx => by
              rw [List.getD_eq_getElem?_getD] at hx ⊢
              rw [List.getElem?_set]
              by_cases hjx : j = x
              · subst hjx
                rw [if_pos rfl, if_pos (by omega)]; rfl
              · rw [if_neg hjx]; exact hx
            by_cases hij : i = j
            · subst hij
              rw [h2'] at ho'; cases ho'
              have := h3 e he hbe
              rw [hgetD bs hl] at this
              have h5 := hwait i hjl
              rw [List.getElem?_eq_getElem hjl] at h2'; cases h2'
              have h6 := h5 e he
              exact hse _ (by simpa [show e.on < m by omega] using this)
            · refine hse _ (hcl i o' ho' ?_ e he hbe)
              rw [List.getD_eq_getElem?_getD, List.getElem?_set_ne (Ne.symm hij)] at hi
              rw [List.getD_eq_getElem?_getD]; exact hi
          · rw [List.setIfInBounds_toArray] at h'; exact h'
        · exfalso
          have hclm : ∀ e ∈ (l[m]'hm).after, Region.binds .any e = true → bs.getD e.on false = true := fun e he hb => by
            by_cases hjm2 : j = m
            · subst hjm2
              rw [List.getElem?_eq_getElem hjl] at h2'; cases h2'
              have := h3 e he hb
              rw [hgetD bs hl] at this
              have h6 := hwait j hjl e he
              simpa [h6] using this
            · have hch := hc
              unfold chainB at hch
              rw [List.all_eq_true] at hch
              have := hch j (List.mem_range.2 hjl)
              simp only [Bool.or_eq_true, decide_eq_true_eq] at this
              rcases this with h | h
              · omega
              · obtain ⟨e', he', hb', hon⟩ := onB_spec h h2'
                have := h3 e' he' hb'
                rw [hgetD bs hl, hon] at this
                simp [show ¬ j - 1 < m by omega] at this
          exact hall2 (hall bs hl hcl hclm)
/-- **A REGION THAT DRAWS ITS ORDER: its first m operations are quiet, the rest, behind all of them, comes one after the other.** -/
theorem wp_region_cut {id : Nat} {a : Act} {w : World} {l : List Oper} {C : World → Prop} (m : Nat) (hpm : P.follows .mixedOrders = true)
    (hck : (decide (m < l.length) && (noGuardB l && (waitsB l && (feedsB l m && (chainB l m && Region.lexB .any (l.take m).toArray))))) = true) (hC : C w.drew)
    (h : wpQuiet P (l.take m).toArray C (fun a' => ∀ w', C w' → wpList P l.toArray Q (l.drop m) a' w') (l.take m) a) : (Code.region id l.toArray true).wp P Q a w := by
  simp only [Bool.and_eq_true, decide_eq_true_eq] at hck
  obtain ⟨hm, hg, hd, hf, hc, hB⟩ := hck
  simp only [Region.lexB, Bool.and_eq_true] at hB
  refine wp_region_any hpm ?_
  have hlen : (l.take m).length = m := by rw [List.length_take]; omega
  have h1 := wpAnyQ_lex (C := C) (md := .any) hB.1 (l.take m) 0 (Array.replicate (l.take m).toArray.size false) a (by simp) (by simpa using hB.2) h
  have h2 := wpAny_of_quiet (Q' := Exit.then (wpOps P l.toArray Q (List.range' m (l.length - m))) Q) (fun a w' hw' hq => by
    show wpOps P l.toArray Q (List.range' m (l.length - m)) a w'
    have e := wpOps_eq_wpList (P := P) (Q := Q) (ops := l.toArray) (l.drop m) m (fun j => by simp)
    rw [List.length_drop] at e
    rw [e]; exact hq w' hw') _ _ _ w.drew hC h1
  have e1 : Array.replicate (l.take m).toArray.size false = (List.replicate m false).toArray := by simp [hlen]
  have e2 : (l.take m).length = m := hlen
  rw [e1, e2] at h2
  have h3 := wpAny_cut m hm hg hd hf hc m (List.replicate m false) a w.drew (by simp) (by simp) (fun i o _ hi => by
    exfalso
    rw [List.getD_eq_getElem?_getD] at hi
    by_cases h : i < m <;> simp [h] at hi) h2
  have e3 : m + (l.length - m) = l.length := by omega
  have e4 : (List.replicate m false ++ List.replicate (l.length - m) false) = List.replicate l.length false := by rw [List.replicate_append_replicate, e3]
  rw [e3, e4] at h3
  simpa using h3
end
end Go.Proofs.Ytlehddifcjklgaa
namespace Go.Proofs.Ytlehddifcjklgaa
open Go.RowKit Go.Shelf
attribute [local go_sem] Oper.semAt_some
set_option maxHeartbeats 800000 in
theorem along_any (ps : List Pt) (b c : Nat) (X Y D : Int) (s : Nat) (w : World) (hp : PtsAt w b 0 ps) (ha : areP ps = true) (hs : s < ps.length) :
    Calls Try.prog 101 #[.agg #[.slice (some ⟨b, 0, none⟩) ps.length c, .int .i64 X, .int .i64 Y, .int .i64 D], .int .i64 (s : Int)] w fun e w' => e = .returned (.agg #[.int .i64 (alongS ps s).1, .int .i64 (alongS ps s).2]) ∧ Below w.heap.size w w' := by
  obtain ⟨h3, h12⟩ := areP_len ha
  have e4 : IntKind.i64.wrap ((s : Int) + 1) = ((s + 1 : Nat) : Int) := by rw [i64_of _ (by omega) (by omega)]; omega
  have e5 : (((s + 1 : Nat) : Int)).tmod (ps.length : Int) = (((s + 1) % ps.length : Nat) : Int) := by rw [← Int.ofNat_tmod]
  have e7 : ((s : Int) + 1) % (ps.length : Int) = (((s + 1) % ps.length : Nat) : Int) := by rw [show (s : Int) + 1 = ((s + 1 : Nat) : Int) by omega]; rfl
  have e6 : ¬ ((ps.length : Int) = 0) := by omega
  have hkn : (s + 1) % ps.length < ps.length := Nat.mod_lt _ (by omega)
  have fin : alongS ps s = (ps[(s + 1) % ps.length].1 - ps[s].1, ps[(s + 1) % ps.length].2 - ps[s].2) := by
    unfold alongS nx mn; rw [ptAt_lt hkn, ptAt_lt hs]
  have Fin := Lib.hid fin
  obtain ⟨b1, b2⟩ := inR_bd ha hkn
  obtain ⟨b3, b4⟩ := inR_bd ha hs
  have k1 := Lib.hid (b1.mono (C := 100000000) (by omega))
  have k2 := Lib.hid (b2.mono (C := 100000000) (by omega))
  have k3 := Lib.hid (b3.mono (C := 100000000) (by omega))
  have k4 := Lib.hid (b4.mono (C := 100000000) (by omega))
  have hx := hp.x _ hkn
  have hy := hp.y _ hkn
  have ux := hp.x _ hs
  have uy := hp.y _ hs
  rw [Nat.zero_add] at hx hy ux uy
  rw [Fin.out]
  clear fin ha
  generalize (s + 1) % ps.length = sn at *
  generalize ps[sn] = pn at *
  generalize ps[s] = pp at *
  have hlt := hp.lt
  clear hp
  go_enter Try.func101, Try.ntmps101
  go_wp2_with fail
  obtain ⟨W0, hW0⟩ : ∃ W0, W0 = (w.alloc (.cells #[.slice (some ⟨b, 0, none⟩) ps.length c, .int .i64 X, .int .i64 Y, .int .i64 D] 81)).alloc (.cells #[.int .i64 0, .int .i64 0] 58) := ⟨_, rfl⟩
  have B0 := Lib.hid (show Below w.heap.size w W0 by rw [hW0]; exact (((Below.refl w.heap.size w).alloc (Nat.le_refl _) _).alloc (by simp) _))
  have sz := Lib.hid (show W0.heap.size = w.heap.size + 2 by rw [hW0]; simp)
  have P : Hid (∀ W, Below W0.heap.size W0 W → W.cell? ⟨w.heap.size, 0, none⟩ = some (.slice (some ⟨b, 0, none⟩) ps.length c) ∧ W.cell? ⟨w.heap.size, 1, none⟩ = some (.int .i64 X) ∧ W.cell? ⟨w.heap.size, 2, none⟩ = some (.int .i64 Y) ∧ W.cell? ⟨w.heap.size, 3, none⟩ = some (.int .i64 D) ∧ W.cell? ⟨w.heap.size + 1, 0, none⟩ = some (.int .i64 0) ∧ W.cell? ⟨w.heap.size + 1, 1, none⟩ = some (.int .i64 0)) := Lib.hid (fun W h => by
    have hsz := sz.out
    refine ⟨below_at h (by omega) ?_, below_at h (by omega) ?_, below_at h (by omega) ?_, below_at h (by omega) ?_, below_at h (by omega) ?_, below_at h (by omega) ?_⟩ <;> (rw [hW0]; simp [cell_al] <;> (intro h; omega)))
  have fz0 : W0.frozen? ⟨w.heap.size + 1, 0, none⟩ = false := by rw [hW0]; simp [frozen_al]
  have fz1 : W0.frozen? ⟨w.heap.size + 1, 1, none⟩ = false := by rw [hW0]; simp [frozen_al]
  rw [← hW0]
  clear hW0
  obtain ⟨p0, p1, p2, p3, p4, p5⟩ := P.out W0 (Below.refl _ _)
  have T0 := Lib.hid (Below.refl W0.heap.size W0)
  have f0 : W0.frozen? ⟨w.heap.size + 1, 0, none⟩ = false := fz0
  have f1 : W0.frozen? ⟨w.heap.size + 1, 1, none⟩ = false := fz1
  have ux0 := below_at B0.out hlt ux
  have uy0 := below_at B0.out hlt uy
  have hx0 := below_at B0.out hlt hx
  have hy0 := below_at B0.out hlt hy
  clear ux uy hx hy
  have x0 := Kl.cell (w := W0) (b := w.heap.size) (o := 0) (by have := sz.out; omega) p0
  have y0 := Kl.cell (w := W0) (b := b) (by have := sz.out; omega) ux0
  have y1 := Kl.cell (w := W0) (b := b) (by have := sz.out; omega) uy0
  have y2 := Kl.cell (w := W0) (b := b) (by have := sz.out; omega) hx0
  have y3 := Kl.cell (w := W0) (b := b) (by have := sz.out; omega) hy0
  refine wp_region_cut (C := fun w' => ∃ n : Kl W0, w' = n.W) 15 (by kernel_rfl) (by kernel_rfl) ⟨⟨W0.drew, (Below.refl _ _).drew⟩, rfl⟩ ?_
  simp only [List.take_succ_cons, List.take_zero, List.drop_succ_cons, List.drop_zero]
  repeat (go_big_quiet_step (fail))
  refine wpQuiet_nil ?_
  rintro _ ⟨wq, rfl⟩
  have T0' := Lib.hid wq.h
  clear T0 p0 p1 p2 p3 p4 p5 x0 y0 y1 y2 y3 ux0 uy0 hx0 hy0
  obtain ⟨p0, p1, p2, p3, p4, p5⟩ := P.out wq.W T0'.out
  have g0 := (T0'.out.frozen (p := ⟨w.heap.size + 1, 0, none⟩) (show w.heap.size + 1 < W0.heap.size by have := sz.out; omega)).trans f0
  have g1 := (T0'.out.frozen (p := ⟨w.heap.size + 1, 1, none⟩) (show w.heap.size + 1 < W0.heap.size by have := sz.out; omega)).trans f1
  go_wp2_with fail
  refine (minus_any _ _ _ _ _ k1.out k2.out k3.out k4.out).mono ?_
  rintro e w1 ⟨rfl, hb⟩
  have h0 := T0'.out.size
  have r0 := (hb.frozen (p := ⟨w.heap.size + 1, 0, none⟩) (show w.heap.size + 1 < wq.W.heap.size by have := sz.out; omega)).trans g0
  have r1 := (hb.frozen (p := ⟨w.heap.size + 1, 1, none⟩) (show w.heap.size + 1 < wq.W.heap.size by have := sz.out; omega)).trans g1
  have T1 := Lib.hid (Below.andThen T0'.out hb (Nat.le_refl _))
  clear hb p0 p1 p2 p3 p4 p5 f0 f1 g0 g1 h0
  obtain ⟨p0, p1, p2, p3, p4, p5⟩ := P.out w1 T1.out
  go_wp2_with fail
  obtain ⟨q0, q1⟩ := two_set (x := .int .i64 (pn.1 - pp.1)) (y := .int .i64 (pn.2 - pp.2)) p4 p5
  refine bodyPost_ret (v := .agg #[.int .i64 (pn.1 - pp.1), .int .i64 (pn.2 - pp.2)]) (by simp [results, Try.results101, go_sem, q0, q1]) rfl ⟨rfl, ?_⟩
  exact ((Below.andThen B0.out T1.out (Nat.le_refl _)).setCell (p := ⟨w.heap.size + 1, 0, none⟩) (by simp) _).setCell (p := ⟨w.heap.size + 1, 1, none⟩) (by simp) _
end Go.Proofs.Ytlehddifcjklgaa
namespace Go.Proofs.Ytlehddifcjklgaa
open Go.RowKit Go.Shelf
attribute [local go_sem] Oper.semAt_some
set_option maxHeartbeats 800000 in
theorem inwards_any (X Y D cx cy : Int) (sl : Value) (w : World) (hX : Bd 400000 X) (hY : Bd 400000 Y) (hD : Bd 30000 D) (hx : Bd 20 cx) (hy : Bd 20 cy) (hs : ∃ v l k, sl = .slice v l k) :
    Calls Try.prog 71 #[.agg #[sl, .int .i64 X, .int .i64 Y, .int .i64 D], .agg #[.int .i64 cx, .int .i64 cy]] w fun e w' => e = .returned (.agg #[.int .i64 (inw (X, Y, D) (cx, cy)).1, .int .i64 (inw (X, Y, D) (cx, cy)).2]) ∧ Below w.heap.size w w' := by
  obtain ⟨v, l, k, rfl⟩ := hs
  have m1 := hD.mul hx
  have m2 := hD.mul hy
  have e1 := i64_bd m1 (by omega)
  have e2 := i64_bd m2 (by omega)
  have e3 := i64_bd (hX.sub m1) (by omega)
  have e4 := i64_bd (hY.sub m2) (by omega)
  clear m1 m2 hX hY hD hx hy
  go_enter Try.func71, Try.ntmps71
  go_wp2_with fail
  obtain ⟨W0, hW0⟩ : ∃ W0, W0 = ((w.alloc (.cells #[.slice v l k, .int .i64 X, .int .i64 Y, .int .i64 D] 81)).alloc (.cells #[.int .i64 cx, .int .i64 cy] 58)).alloc (.cells #[.int .i64 0, .int .i64 0] 58) := ⟨_, rfl⟩
  have B0 := Lib.hid (show Below w.heap.size w W0 by rw [hW0]; exact ((((Below.refl w.heap.size w).alloc (Nat.le_refl _) _).alloc (by simp) _).alloc (by simp; omega) _))
  have sz := Lib.hid (show W0.heap.size = w.heap.size + 3 by rw [hW0]; simp)
  have P : Hid (∀ W, Below W0.heap.size W0 W → W.cell? ⟨w.heap.size, 0, none⟩ = some (.slice v l k) ∧ W.cell? ⟨w.heap.size, 1, none⟩ = some (.int .i64 X) ∧ W.cell? ⟨w.heap.size, 2, none⟩ = some (.int .i64 Y) ∧ W.cell? ⟨w.heap.size, 3, none⟩ = some (.int .i64 D) ∧ W.cell? ⟨w.heap.size + 1, 0, none⟩ = some (.int .i64 cx) ∧ W.cell? ⟨w.heap.size + 1, 1, none⟩ = some (.int .i64 cy) ∧ W.cell? ⟨w.heap.size + 2, 0, none⟩ = some (.int .i64 0) ∧ W.cell? ⟨w.heap.size + 2, 1, none⟩ = some (.int .i64 0)) := Lib.hid (fun W h => by
    have hsz := sz.out
    refine ⟨below_at h (by omega) ?_, below_at h (by omega) ?_, below_at h (by omega) ?_, below_at h (by omega) ?_, below_at h (by omega) ?_, below_at h (by omega) ?_, below_at h (by omega) ?_, below_at h (by omega) ?_⟩ <;> (rw [hW0]; simp [cell_al] <;> (intro h; omega)))
  have fz20 : W0.frozen? ⟨w.heap.size + 2, 0, none⟩ = false := by rw [hW0]; simp [frozen_al]
  have fz21 : W0.frozen? ⟨w.heap.size + 2, 1, none⟩ = false := by rw [hW0]; simp [frozen_al]
  rw [← hW0]
  clear hW0
  obtain ⟨p0, p1, p2, p3, p4, p5, p6, p7⟩ := P.out W0 (Below.refl _ _)
  have T0 := Lib.hid (Below.refl W0.heap.size W0)

  go_region
  go_wp2_with fail
  obtain ⟨q0, q1⟩ := two_set (x := .int .i64 (X - D * cx)) (y := .int .i64 (Y - D * cy)) p6 p7
  refine bodyPost_ret (v := .agg #[.int .i64 (X - D * cx), .int .i64 (Y - D * cy)]) (by simp [results, Try.results71, go_sem, q0, q1]) rfl ⟨rfl, ?_⟩
  exact ((B0.out.setCell (p := ⟨w.heap.size + 2, 0, none⟩) (by simp) _).setCell (p := ⟨w.heap.size + 2, 1, none⟩) (by simp) _).drew
theorem inw_bd {X Y D cx cy : Int} (hX : Bd 400000 X) (hY : Bd 400000 Y) (hD : Bd 30000 D) (hx : Bd 20 cx) (hy : Bd 20 cy) : Bd 1000000 (inw (X, Y, D) (cx, cy)).1 ∧ Bd 1000000 (inw (X, Y, D) (cx, cy)).2 :=
  ⟨(hX.sub (hD.mul hx)).mono (by omega), (hY.sub (hD.mul hy)).mono (by omega)⟩
theorem alongS_bd {ps : List Pt} (ha : areP ps = true) {s : Nat} (hs : s < ps.length) : Bd 40 (alongS ps s).1 ∧ Bd 40 (alongS ps s).2 :=
  ⟨((nx_bd ha hs).1.sub (ptAt_bd ha hs).1).mono (by omega), ((nx_bd ha hs).2.sub (ptAt_bd ha hs).2).mono (by omega)⟩
set_option maxRecDepth 100000 in
set_option maxHeartbeats 800000 in
theorem foot_any (ps : List Pt) (b c : Nat) (X Y D : Int) (s : Nat) (w : World) (hp : PtsAt w b 0 ps) (ha : areP ps = true) (hs : s < ps.length) (hX : Bd 400000 X) (hY : Bd 400000 Y) (hD : Bd 30000 D) (h0 : 0 < D) (hne : 0 < dt (alongS ps s) (alongS ps s)) :
    Calls Try.prog 77 #[.agg #[.slice (some ⟨b, 0, none⟩) ps.length c, .int .i64 X, .int .i64 Y, .int .i64 D], .int .i64 (s : Int)] w fun e w' => e = .returned (.agg #[.int .i64 (foot ps (X, Y, D) s).1, .int .i64 (foot ps (X, Y, D) s).2]) ∧ Below w.heap.size w w' := by
  obtain ⟨h3, h12⟩ := areP_len ha
  have HA := Lib.hid (along_any ps b c X Y D s)
  obtain ⟨hcx, hcy⟩ := inR_bd ha hs
  obtain ⟨hax, hay⟩ := alongS_bd ha hs
  have hxx := hp.x _ hs
  have hyy := hp.y _ hs
  rw [Nat.zero_add] at hxx hyy
  have hpt : ptAt ps s = ps[s] := ptAt_lt hs
  have hlt := hp.lt
  have HPA := Lib.hid ha
  have HPP := Lib.hid hp
  have HPS := Lib.hid hs
  obtain ⟨ax, ay, hal⟩ : ∃ ax ay, alongS ps s = (ax, ay) := ⟨_, _, rfl⟩
  generalize ps[s] = pt at hxx hyy hcx hcy hpt
  obtain ⟨cx, cy⟩ := pt
  dsimp only at hxx hyy hcx hcy
  obtain ⟨ix, iy, hin⟩ : ∃ ix iy, inw (X, Y, D) (cx, cy) = (ix, iy) := ⟨_, _, rfl⟩
  have hib := inw_bd hX hY hD hcx hcy
  have hIN := inwards_any X Y D cx cy (.slice (some ⟨b, 0, none⟩) ps.length c)
  rw [hin] at hib hIN
  rw [hal] at hax hay hne
  dsimp only at hib hax hay hIN
  have j1 := ((hib.1.mul hax).add (hib.2.mul hay)).mono (C := 100000000) (by omega)
  have j2 := ((hax.mul hax).add (hay.mul hay)).mono (C := 3200) (by omega)
  have j3 := hD.mul j2
  have e1 : IntKind.i64.wrap (D * dt (ax, ay) (ax, ay)) = D * dt (ax, ay) (ax, ay) := i64_bd j3 (by omega)
  have j4 : 0 < D * dt (ax, ay) (ax, ay) := Int.mul_pos h0 hne
  have fin : foot ps (X, Y, D) s = frac (dt (ix, iy) (ax, ay)) (D * dt (ax, ay) (ax, ay)) := by
    unfold foot; rw [hpt, hin, hal]
  obtain ⟨fn, fd, hfr⟩ : ∃ fn fd, frac (dt (ix, iy) (ax, ay)) (D * dt (ax, ay) (ax, ay)) = (fn, fd) := ⟨_, _, rfl⟩
  have hFR := fractionOf_any (dt (ix, iy) (ax, ay)) (D * dt (ax, ay) (ax, ay))
  rw [hfr] at hFR fin
  dsimp only at hFR
  rw [fin]
  dsimp only
  have HIN := Lib.hid (fun W => hIN W hX hY hD hcx hcy ⟨_, _, _, rfl⟩)
  have HFR := Lib.hid (fun W => hFR W (j1.mono (by omega)) (j3.mono (by omega)) j4)
  have A1 := Lib.hid (hax.mono (C := 100000000) (by omega))
  have A2 := Lib.hid (hay.mono (C := 100000000) (by omega))
  have A3 := Lib.hid (hib.1.mono (C := 100000000) (by omega))
  have A4 := Lib.hid (hib.2.mono (C := 100000000) (by omega))
  have HAL : Hid (∀ W, PtsAt W b 0 ps → Calls Try.prog 101 #[.agg #[.slice (some ⟨b, 0, none⟩) ps.length c, .int .i64 X, .int .i64 Y, .int .i64 D], .int .i64 (s : Int)] W fun e w' => e = .returned (.agg #[.int .i64 ax, .int .i64 ay]) ∧ Below W.heap.size W w') := Lib.hid (fun W h => by
    have := HA.out W h HPA.out HPS.out
    rw [hal] at this; exact this)
  clear hIN hFR hX hY hD hcx hcy hax hay hib j1 j2 j3 j4 fin hfr hin hal hpt hne h0 hs hp ha HA
  have hs2 := HPS.out
  go_enter Try.func77, Try.ntmps77
  go_wp2_with fail
  obtain ⟨W0, hW0⟩ : ∃ W0, W0 = (w.alloc (.cells #[.slice (some ⟨b, 0, none⟩) ps.length c, .int .i64 X, .int .i64 Y, .int .i64 D] 81)).alloc (.cells #[.int .i64 0, .int .i64 0] 88) := ⟨_, rfl⟩
  have B0 := Lib.hid (show Below w.heap.size w W0 by rw [hW0]; exact (((Below.refl w.heap.size w).alloc (Nat.le_refl _) _).alloc (by simp) _))
  have sz := Lib.hid (show W0.heap.size = w.heap.size + 2 by rw [hW0]; simp)
  have P : Hid (∀ W, Below W0.heap.size W0 W → W.cell? ⟨w.heap.size, 0, none⟩ = some (.slice (some ⟨b, 0, none⟩) ps.length c) ∧ W.cell? ⟨w.heap.size, 1, none⟩ = some (.int .i64 X) ∧ W.cell? ⟨w.heap.size, 2, none⟩ = some (.int .i64 Y) ∧ W.cell? ⟨w.heap.size, 3, none⟩ = some (.int .i64 D) ∧ W.cell? ⟨w.heap.size + 1, 0, none⟩ = some (.int .i64 0) ∧ W.cell? ⟨w.heap.size + 1, 1, none⟩ = some (.int .i64 0)) := Lib.hid (fun W h => by
    have hsz := sz.out
    refine ⟨below_at h (by omega) ?_, below_at h (by omega) ?_, below_at h (by omega) ?_, below_at h (by omega) ?_, below_at h (by omega) ?_, below_at h (by omega) ?_⟩ <;> (rw [hW0]; simp [cell_al] <;> (intro h; omega)))
  have fz10 : W0.frozen? ⟨w.heap.size + 1, 0, none⟩ = false := by rw [hW0]; simp [frozen_al]
  have fz11 : W0.frozen? ⟨w.heap.size + 1, 1, none⟩ = false := by rw [hW0]; simp [frozen_al]
  rw [← hW0]
  clear hW0
  obtain ⟨p0, p1, p2, p3, p4, p5⟩ := P.out W0 (Below.refl _ _)
  have T0 := Lib.hid (Below.refl W0.heap.size W0)
  refine (HAL.out W0 (HPP.out.grow B0.out)).mono ?_
  rintro e w1 ⟨rfl, hb⟩
  obtain ⟨V, hV⟩ : ∃ V, V = w1.alloc (.cells #[.int .i64 ax, .int .i64 ay] 58) := ⟨_, rfl⟩
  have BV := Lib.hid (show Below W0.heap.size W0 V by rw [hV]; exact Below.al hb (Nat.le_refl _) _)
  have sV := Lib.hid (show V.heap.size = w1.heap.size + 1 by rw [hV]; simp)
  have a0 : V.cell? ⟨w1.heap.size, 0, none⟩ = some (.int .i64 ax) := by rw [hV]; simp [cell_al]
  have a1 : V.cell? ⟨w1.heap.size, 1, none⟩ = some (.int .i64 ay) := by rw [hV]; simp [cell_al]
  have hs1 := hb.size
  clear p0 p1 p2 p3 p4 p5 T0
  obtain ⟨p0, p1, p2, p3, p4, p5⟩ := P.out w1 hb
  go_wp2_with fail
  rw [← hV]
  clear p0 p1 p2 p3 p4 p5
  obtain ⟨p0, p1, p2, p3, p4, p5⟩ := P.out V BV.out
  have l0 : w.heap.size < V.heap.size := by have := sV.out; have := sz.out; omega
  have l1 : w.heap.size + 1 < V.heap.size := by have := sV.out; have := sz.out; omega
  have l2 : w1.heap.size < V.heap.size := by have := sV.out; omega
  have l3 : b < V.heap.size := by omega
  have hB1 := Below.andThen B0.out BV.out (Nat.le_refl _)
  have f0 := (BV.out.frozen (p := ⟨w.heap.size + 1, 0, none⟩) (show w.heap.size + 1 < W0.heap.size by have := sz.out; omega)).trans fz10
  have f1 := (BV.out.frozen (p := ⟨w.heap.size + 1, 1, none⟩) (show w.heap.size + 1 < W0.heap.size by have := sz.out; omega)).trans fz11
  have u0 := below_at hB1 hlt hxx
  have u1 := below_at hB1 hlt hyy
  have HB1 := Lib.hid hB1
  clear hV hb hB1 hs1
  have x0 := Kl.cell l0 p0
  have x1 := Kl.cell l0 p1
  have x2 := Kl.cell l0 p2
  have x3 := Kl.cell l0 p3
  have x4 := Kl.cell l2 a0
  have x5 := Kl.cell l2 a1
  have x6 := Kl.cell l3 u0
  have x7 := Kl.cell l3 u1
  refine wp_region_cut (C := fun w' => ∃ n : Kl V, w' = n.W) 17 (by kernel_rfl) (by kernel_rfl) ⟨⟨V.drew, (Below.refl _ _).drew⟩, rfl⟩ ?_
  simp only [List.take_succ_cons, List.take_zero, List.drop_succ_cons, List.drop_zero]
  repeat (go_big_quiet_step (first | (go_at_call 71; exact Kl.call (HIN.out _)) | (go_at_call 96; exact Kl.call (HFR.out _)) | (go_at_call 72; exact Kl.call (dot_any _ _ _ _ _ (by first | exact A3.out | exact A1.out) (by first | exact A4.out | exact A2.out) A1.out A2.out))))
  refine wpQuiet_nil ?_
  rintro _ ⟨wq, rfl⟩
  have c4 := below_at wq.h l1 p4
  have c5 := below_at wq.h l1 p5
  have g0 := (wq.h.frozen (p := ⟨w.heap.size + 1, 0, none⟩) l1).trans f0
  have g1 := (wq.h.frozen (p := ⟨w.heap.size + 1, 1, none⟩) l1).trans f1
  have TT := Lib.hid (Below.andThen HB1.out wq.h (Nat.le_refl _))
  clear p0 p1 p2 p3 p4 p5 x0 x1 x2 x3 x4 x5 x6 x7 u0 u1 a0 a1
  go_wp2_with fail
  obtain ⟨q0, q1⟩ := two_set (x := .int .i64 fn) (y := .int .i64 fd) c4 c5
  refine bodyPost_ret (v := .agg #[.int .i64 fn, .int .i64 fd]) (by simp [results, Try.results77, go_sem, q0, q1]) rfl ⟨rfl, ?_⟩
  exact (TT.out.setCell (p := ⟨w.heap.size + 1, 0, none⟩) (by simp) _).setCell (p := ⟨w.heap.size + 1, 1, none⟩) (by simp) _

set_option maxRecDepth 100000 in
set_option maxHeartbeats 800000 in
theorem height_any (ps : List Pt) (b c : Nat) (X Y D : Int) (s : Nat) (w : World) (hp : PtsAt w b 0 ps) (ha : areP ps = true) (hs : s < ps.length) (hX : Bd 400000 X) (hY : Bd 400000 Y) (hD : Bd 30000 D) (_h0 : 0 < D) (hne : 0 < dt (alongS ps s) (alongS ps s)) :
    Calls Try.prog 74 #[.agg #[.slice (some ⟨b, 0, none⟩) ps.length c, .int .i64 X, .int .i64 Y, .int .i64 D], .int .i64 (s : Int)] w fun e w' => e = .returned (.agg #[.int .i64 (height ps (X, Y, D) s).1, .int .i64 (height ps (X, Y, D) s).2]) ∧ Below w.heap.size w w' := by
  obtain ⟨h3, h12⟩ := areP_len ha
  have HA := Lib.hid (along_any ps b c X Y D s)
  obtain ⟨hcx, hcy⟩ := inR_bd ha hs
  obtain ⟨hax, hay⟩ := alongS_bd ha hs
  have hxx := hp.x _ hs
  have hyy := hp.y _ hs
  rw [Nat.zero_add] at hxx hyy
  have hpt : ptAt ps s = ps[s] := ptAt_lt hs
  have hlt := hp.lt
  have HPA := Lib.hid ha
  have HPP := Lib.hid hp
  have HPS := Lib.hid hs
  obtain ⟨ax, ay, hal⟩ : ∃ ax ay, alongS ps s = (ax, ay) := ⟨_, _, rfl⟩
  generalize ps[s] = pt at hxx hyy hcx hcy hpt
  obtain ⟨cx, cy⟩ := pt
  dsimp only at hxx hyy hcx hcy
  obtain ⟨ix, iy, hin⟩ : ∃ ix iy, inw (X, Y, D) (cx, cy) = (ix, iy) := ⟨_, _, rfl⟩
  have hib := inw_bd hX hY hD hcx hcy
  have hIN := inwards_any X Y D cx cy (.slice (some ⟨b, 0, none⟩) ps.length c)
  rw [hin] at hib hIN
  rw [hal] at hax hay hne
  dsimp only at hib hax hay hIN
  have j1 := ((hax.mul hib.2).add (hay.neg.mul hib.1)).mono (C := 100000000) (by omega)
  have j2 := ((hax.mul hax).add (hay.mul hay)).mono (C := 3200) (by omega)
  have j3 := (j1.mul j1).mono (C := 10000000000000000) (by omega)
  have e1 : IntKind.i64.wrap (crs (ax, ay) (ix, iy) * crs (ax, ay) (ix, iy)) = crs (ax, ay) (ix, iy) * crs (ax, ay) (ix, iy) := i64_bd j3 (by omega)
  have hH : heightH ps (X, Y, D) s = crs (ax, ay) (ix, iy) := by
    unfold heightH; rw [hpt, hin, hal]
  have fin : height ps (X, Y, D) s = frac (crs (ax, ay) (ix, iy) * crs (ax, ay) (ix, iy)) (dt (ax, ay) (ax, ay)) := by
    unfold height; rw [hH, hal]
  obtain ⟨fn, fd, hfr⟩ : ∃ fn fd, frac (crs (ax, ay) (ix, iy) * crs (ax, ay) (ix, iy)) (dt (ax, ay) (ax, ay)) = (fn, fd) := ⟨_, _, rfl⟩
  have hFR := fractionOf64_any (crs (ax, ay) (ix, iy) * crs (ax, ay) (ix, iy)) (dt (ax, ay) (ax, ay))
  rw [hfr] at hFR fin
  dsimp only at hFR
  rw [fin]
  dsimp only
  have HIN := Lib.hid (fun W => hIN W hX hY hD hcx hcy ⟨_, _, _, rfl⟩)
  have HFR := Lib.hid (fun W => hFR W (j3.mono (by omega)) (j2.mono (by omega)) hne)
  have A1 := Lib.hid (hax.mono (C := 100000000) (by omega))
  have A2 := Lib.hid (hay.mono (C := 100000000) (by omega))
  have A3 := Lib.hid (hib.1.mono (C := 100000000) (by omega))
  have A4 := Lib.hid (hib.2.mono (C := 100000000) (by omega))
  have HAL : Hid (∀ W, PtsAt W b 0 ps → Calls Try.prog 101 #[.agg #[.slice (some ⟨b, 0, none⟩) ps.length c, .int .i64 X, .int .i64 Y, .int .i64 D], .int .i64 (s : Int)] W fun e w' => e = .returned (.agg #[.int .i64 ax, .int .i64 ay]) ∧ Below W.heap.size W w') := Lib.hid (fun W h => by
    have := HA.out W h HPA.out HPS.out
    rw [hal] at this; exact this)
  clear hIN hFR hX hY hD hcx hcy hax hay hib j1 j2 j3 fin hfr hin hal hpt hne _h0 hs hp ha HA hH
  have hs2 := HPS.out
  go_enter Try.func74, Try.ntmps74
  go_wp2_with fail
  obtain ⟨W0, hW0⟩ : ∃ W0, W0 = (w.alloc (.cells #[.slice (some ⟨b, 0, none⟩) ps.length c, .int .i64 X, .int .i64 Y, .int .i64 D] 81)).alloc (.cells #[.int .i64 0, .int .i64 0] 88) := ⟨_, rfl⟩
  have B0 := Lib.hid (show Below w.heap.size w W0 by rw [hW0]; exact (((Below.refl w.heap.size w).alloc (Nat.le_refl _) _).alloc (by simp) _))
  have sz := Lib.hid (show W0.heap.size = w.heap.size + 2 by rw [hW0]; simp)
  have P : Hid (∀ W, Below W0.heap.size W0 W → W.cell? ⟨w.heap.size, 0, none⟩ = some (.slice (some ⟨b, 0, none⟩) ps.length c) ∧ W.cell? ⟨w.heap.size, 1, none⟩ = some (.int .i64 X) ∧ W.cell? ⟨w.heap.size, 2, none⟩ = some (.int .i64 Y) ∧ W.cell? ⟨w.heap.size, 3, none⟩ = some (.int .i64 D) ∧ W.cell? ⟨w.heap.size + 1, 0, none⟩ = some (.int .i64 0) ∧ W.cell? ⟨w.heap.size + 1, 1, none⟩ = some (.int .i64 0)) := Lib.hid (fun W h => by
    have hsz := sz.out
    refine ⟨below_at h (by omega) ?_, below_at h (by omega) ?_, below_at h (by omega) ?_, below_at h (by omega) ?_, below_at h (by omega) ?_, below_at h (by omega) ?_⟩ <;> (rw [hW0]; simp [cell_al] <;> (intro h; omega)))
  have fz10 : W0.frozen? ⟨w.heap.size + 1, 0, none⟩ = false := by rw [hW0]; simp [frozen_al]
  have fz11 : W0.frozen? ⟨w.heap.size + 1, 1, none⟩ = false := by rw [hW0]; simp [frozen_al]
  rw [← hW0]
  clear hW0
  obtain ⟨p0, p1, p2, p3, p4, p5⟩ := P.out W0 (Below.refl _ _)
  have T0 := Lib.hid (Below.refl W0.heap.size W0)
  refine (HAL.out W0 (HPP.out.grow B0.out)).mono ?_
  rintro e w1 ⟨rfl, hb⟩
  obtain ⟨V, hV⟩ : ∃ V, V = w1.alloc (.cells #[.int .i64 ax, .int .i64 ay] 58) := ⟨_, rfl⟩
  have BV := Lib.hid (show Below W0.heap.size W0 V by rw [hV]; exact Below.al hb (Nat.le_refl _) _)
  have sV := Lib.hid (show V.heap.size = w1.heap.size + 1 by rw [hV]; simp)
  have a0 : V.cell? ⟨w1.heap.size, 0, none⟩ = some (.int .i64 ax) := by rw [hV]; simp [cell_al]
  have a1 : V.cell? ⟨w1.heap.size, 1, none⟩ = some (.int .i64 ay) := by rw [hV]; simp [cell_al]
  have hs1 := hb.size
  clear p0 p1 p2 p3 p4 p5 T0
  obtain ⟨p0, p1, p2, p3, p4, p5⟩ := P.out w1 hb
  go_wp2_with fail
  rw [← hV]
  clear p0 p1 p2 p3 p4 p5
  obtain ⟨p0, p1, p2, p3, p4, p5⟩ := P.out V BV.out
  have l0 : w.heap.size < V.heap.size := by have := sV.out; have := sz.out; omega
  have l1 : w.heap.size + 1 < V.heap.size := by have := sV.out; have := sz.out; omega
  have l2 : w1.heap.size < V.heap.size := by have := sV.out; omega
  have l3 : b < V.heap.size := by omega
  have hB1 := Below.andThen B0.out BV.out (Nat.le_refl _)
  have f0 := (BV.out.frozen (p := ⟨w.heap.size + 1, 0, none⟩) (show w.heap.size + 1 < W0.heap.size by have := sz.out; omega)).trans fz10
  have f1 := (BV.out.frozen (p := ⟨w.heap.size + 1, 1, none⟩) (show w.heap.size + 1 < W0.heap.size by have := sz.out; omega)).trans fz11
  have u0 := below_at hB1 hlt hxx
  have u1 := below_at hB1 hlt hyy
  have HB1 := Lib.hid hB1
  clear hV hb hB1 hs1
  have x0 := Kl.cell l0 p0
  have x1 := Kl.cell l0 p1
  have x2 := Kl.cell l0 p2
  have x3 := Kl.cell l0 p3
  have x4 := Kl.cell l2 a0
  have x5 := Kl.cell l2 a1
  have x6 := Kl.cell l3 u0
  have x7 := Kl.cell l3 u1
  refine wp_region_below (by kernel_rfl) (by kernel_rfl) ?_
  repeat (go_big_quiet_step (first | (go_at_call 71; exact Kl.call (HIN.out _)) | (go_at_call 65; exact Kl.call (cross_any _ _ _ _ _ A1.out A2.out A3.out A4.out))))
  refine wpQuiet_nil ?_
  rintro _ ⟨wq, rfl⟩
  have c4 := below_at wq.h l1 p4
  have c5 := below_at wq.h l1 p5
  have a0' := below_at wq.h l2 a0
  have a1' := below_at wq.h l2 a1
  have g0 := (wq.h.frozen (p := ⟨w.heap.size + 1, 0, none⟩) l1).trans f0
  have g1 := (wq.h.frozen (p := ⟨w.heap.size + 1, 1, none⟩) l1).trans f1
  have TT := Lib.hid (Below.andThen HB1.out wq.h (Nat.le_refl _))
  have m1 : w.heap.size + 1 < wq.W.heap.size := Nat.lt_of_lt_of_le l1 wq.h.size
  clear p0 p1 p2 p3 p4 p5 x0 x1 x2 x3 x4 x5 x6 x7 u0 u1 a0 a1 f0 f1
  go_wp2_with fail
  refine (dot_any _ _ _ _ _ A1.out A2.out A1.out A2.out).mono ?_
  rintro e w2 ⟨rfl, hb⟩
  have T2 := Lib.hid (Below.andThen TT.out hb (Nat.le_refl _))
  have m2 : w.heap.size + 1 < w2.heap.size := Nat.lt_of_lt_of_le m1 hb.size
  have c4' := below_at hb m1 c4
  have c5' := below_at hb m1 c5
  have g0' := (hb.frozen (p := ⟨w.heap.size + 1, 0, none⟩) m1).trans g0
  have g1' := (hb.frozen (p := ⟨w.heap.size + 1, 1, none⟩) m1).trans g1
  clear hb c4 c5 g0 g1 a0' a1'
  go_wp2_with fail
  refine (HFR.out _).mono ?_
  rintro e w3 ⟨rfl, hb⟩
  have T3 := Lib.hid (Below.andThen T2.out hb (Nat.le_refl _))
  have c4 := below_at hb m2 c4'
  have c5 := below_at hb m2 c5'
  have g0 := (hb.frozen (p := ⟨w.heap.size + 1, 0, none⟩) m2).trans g0'
  have g1 := (hb.frozen (p := ⟨w.heap.size + 1, 1, none⟩) m2).trans g1'
  clear hb c4' c5' g0' g1'
  go_wp2_with fail
  obtain ⟨q0, q1⟩ := two_set (x := .int .i64 fn) (y := .int .i64 fd) c4 c5
  refine bodyPost_ret (v := .agg #[.int .i64 fn, .int .i64 fd]) (by simp [results, Try.results74, go_sem, q0, q1]) rfl ⟨rfl, ?_⟩
  exact (T3.out.setCell (p := ⟨w.heap.size + 1, 0, none⟩) (by simp) _).setCell (p := ⟨w.heap.size + 1, 1, none⟩) (by simp) _
end Go.Proofs.Ytlehddifcjklgaa
namespace Go.Proofs.Ytlehddifcjklgaa
open Go.RowKit Go.Shelf
attribute [local go_sem] Oper.semAt_some
theorem frac_bd {n d A B : Int} (hn : Bd A n) (hd : Bd B d) : Bd A (frac n d).1 ∧ Bd B (frac n d).2 := ⟨hn.tdiv, hd.tdiv⟩
theorem foot_bd {ps : List Pt} {X Y D : Int} {s : Nat} (ha : areP ps = true) (hs : s < ps.length) (hX : Bd 400000 X) (hY : Bd 400000 Y) (hD : Bd 30000 D) :
    Bd 1000000000 (foot ps (X, Y, D) s).1 ∧ Bd 1000000000 (foot ps (X, Y, D) s).2 := by
  obtain ⟨hax, hay⟩ := alongS_bd ha hs
  obtain ⟨hcx, hcy⟩ := ptAt_bd ha hs
  obtain ⟨hix, hiy⟩ := inw_bd hX hY hD hcx hcy
  exact frac_bd (((hix.mul hax).add (hiy.mul hay)).mono (by omega)) ((hD.mul ((hax.mul hax).add (hay.mul hay))).mono (by omega))
set_option maxRecDepth 100000 in
set_option maxHeartbeats 800000 in
theorem isRest_any (ps : List Pt) (b c : Nat) (X Y D : Int) (s : Nat) (w : World) (hp : PtsAt w b 0 ps) (ha : areP ps = true) (hs : s < ps.length) (hX : Bd 400000 X) (hY : Bd 400000 Y) (hD : Bd 30000 D) (h0 : 0 < D) (hne : 0 < dt (alongS ps s) (alongS ps s)) :
    Calls Try.prog 69 #[.agg #[.slice (some ⟨b, 0, none⟩) ps.length c, .int .i64 X, .int .i64 Y, .int .i64 D], .int .i64 (s : Int)] w fun e w' => e = .returned (.bool (restB ps (X, Y, D) s)) ∧ Below w.heap.size w w' := by
  have HF := Lib.hid (fun W (h : PtsAt W b 0 ps) => foot_any ps b c X Y D s W h ha hs hX hY hD h0 hne)
  obtain ⟨f1, f2⟩ := foot_bd ha hs hX hY hD
  have F1 := Lib.hid (f1.mono (C := 1000000000000000000) (by omega))
  have F2 := Lib.hid f2
  have HPP := Lib.hid hp
  have fin : restB ps (X, Y, D) s = withinF ((foot ps (X, Y, D) s).1, (foot ps (X, Y, D) s).2) (0, 1) (1, 1) := rfl
  have Fin := Lib.hid fin
  clear fin f1 f2 hp ha hs hX hY hD h0 hne
  go_enter Try.func69, Try.ntmps69
  go_wp2_with fail
  obtain ⟨W0, hW0⟩ : ∃ W0, W0 = w.alloc (.cells #[.slice (some ⟨b, 0, none⟩) ps.length c, .int .i64 X, .int .i64 Y, .int .i64 D] 81) := ⟨_, rfl⟩
  have B0 := Lib.hid (show Below w.heap.size w W0 by rw [hW0]; exact ((Below.refl w.heap.size w).alloc (Nat.le_refl _) _))
  have sz := Lib.hid (show W0.heap.size = w.heap.size + 1 by rw [hW0]; simp)
  have P : Hid (∀ W, Below W0.heap.size W0 W → W.cell? ⟨w.heap.size, 0, none⟩ = some (.slice (some ⟨b, 0, none⟩) ps.length c) ∧ W.cell? ⟨w.heap.size, 1, none⟩ = some (.int .i64 X) ∧ W.cell? ⟨w.heap.size, 2, none⟩ = some (.int .i64 Y) ∧ W.cell? ⟨w.heap.size, 3, none⟩ = some (.int .i64 D)) := Lib.hid (fun W h => by
    have hsz := sz.out
    refine ⟨below_at h (by omega) ?_, below_at h (by omega) ?_, below_at h (by omega) ?_, below_at h (by omega) ?_⟩ <;> (rw [hW0]; simp [cell_al] <;> (intro h; omega)))
  rw [← hW0]
  clear hW0
  obtain ⟨p0, p1, p2, p3⟩ := P.out W0 (Below.refl _ _)
  have T0 := Lib.hid (Below.refl W0.heap.size W0)
  refine (HF.out W0 (HPP.out.grow B0.out)).mono ?_
  rintro e w1 ⟨rfl, hb⟩
  have T1 := Lib.hid (Below.andThen T0.out hb (Nat.le_refl _))
  clear hb T0 p0 p1 p2 p3
  obtain ⟨p0, p1, p2, p3⟩ := P.out w1 T1.out
  generalize foot ps (X, Y, D) s = fo at *
  go_wp2_with fail
  refine (whole_any 0 _).mono ?_
  rintro e w2 ⟨rfl, hb⟩
  have T2 := Lib.hid (Below.andThen T1.out hb (Nat.le_refl _))
  clear hb T1 p0 p1 p2 p3
  obtain ⟨p0, p1, p2, p3⟩ := P.out w2 T2.out
  go_wp2_with fail
  refine (whole_any 1 _).mono ?_
  rintro e w3 ⟨rfl, hb⟩
  have T3 := Lib.hid (Below.andThen T2.out hb (Nat.le_refl _))
  clear hb T2 p0 p1 p2 p3
  obtain ⟨p0, p1, p2, p3⟩ := P.out w3 T3.out
  go_wp2_with fail
  refine (within_any _ _ 0 1 _ F1.out F2.out (by unfold Bd; omega) (by unfold Bd; omega)).mono ?_
  rintro e w4 ⟨rfl, hb⟩
  have T4 := Lib.hid (Below.andThen T3.out hb (Nat.le_refl _))
  clear hb T3 p0 p1 p2 p3
  obtain ⟨p0, p1, p2, p3⟩ := P.out w4 T4.out
  go_wp2_with fail
  go_ret
  exact ⟨ret_bool (by rw [Fin.out]), Below.andThen B0.out T4.out (Nat.le_refl _)⟩
set_option maxRecDepth 100000 in
set_option maxHeartbeats 800000 in
theorem isFirm_any (ps : List Pt) (b c : Nat) (X Y D : Int) (s : Nat) (w : World) (hp : PtsAt w b 0 ps) (ha : areP ps = true) (hs : s < ps.length) (hX : Bd 400000 X) (hY : Bd 400000 Y) (hD : Bd 30000 D) (h0 : 0 < D) (hne : 0 < dt (alongS ps s) (alongS ps s)) :
    Calls Try.prog 70 #[.agg #[.slice (some ⟨b, 0, none⟩) ps.length c, .int .i64 X, .int .i64 Y, .int .i64 D], .int .i64 (s : Int)] w fun e w' => e = .returned (.bool (firmB ps (X, Y, D) s)) ∧ Below w.heap.size w w' := by
  have HF := Lib.hid (fun W (h : PtsAt W b 0 ps) => foot_any ps b c X Y D s W h ha hs hX hY hD h0 hne)
  have HR := Lib.hid (fun W (h : PtsAt W b 0 ps) => isRest_any ps b c X Y D s W h ha hs hX hY hD h0 hne)
  have HPP := Lib.hid hp
  have fin : firmB ps (X, Y, D) s = (restB ps (X, Y, D) s && decide ((foot ps (X, Y, D) s) ≠ (0, 1)) && decide ((foot ps (X, Y, D) s) ≠ (1, 1))) := rfl
  have Fin := Lib.hid fin
  have hlt := hp.lt
  clear fin hp ha hs hX hY hD h0 hne
  go_enter Try.func70, Try.ntmps70
  go_wp2_with fail
  obtain ⟨W0, hW0⟩ : ∃ W0, W0 = w.alloc (.cells #[.slice (some ⟨b, 0, none⟩) ps.length c, .int .i64 X, .int .i64 Y, .int .i64 D] 81) := ⟨_, rfl⟩
  have B0 := Lib.hid (show Below w.heap.size w W0 by rw [hW0]; exact ((Below.refl w.heap.size w).alloc (Nat.le_refl _) _))
  have sz := Lib.hid (show W0.heap.size = w.heap.size + 1 by rw [hW0]; simp)
  have P : Hid (∀ W, Below W0.heap.size W0 W → W.cell? ⟨w.heap.size, 0, none⟩ = some (.slice (some ⟨b, 0, none⟩) ps.length c) ∧ W.cell? ⟨w.heap.size, 1, none⟩ = some (.int .i64 X) ∧ W.cell? ⟨w.heap.size, 2, none⟩ = some (.int .i64 Y) ∧ W.cell? ⟨w.heap.size, 3, none⟩ = some (.int .i64 D)) := Lib.hid (fun W h => by
    have hsz := sz.out
    refine ⟨below_at h (by omega) ?_, below_at h (by omega) ?_, below_at h (by omega) ?_, below_at h (by omega) ?_⟩ <;> (rw [hW0]; simp [cell_al] <;> (intro h; omega)))
  rw [← hW0]
  clear hW0
  obtain ⟨p0, p1, p2, p3⟩ := P.out W0 (Below.refl _ _)
  have T0 := Lib.hid (Below.refl W0.heap.size W0)
  refine (HF.out W0 (HPP.out.grow B0.out)).mono ?_
  rintro e w1 ⟨rfl, hb⟩
  have T1 := Lib.hid (Below.andThen T0.out hb (Nat.le_refl _))
  clear hb T0 p0 p1 p2 p3
  obtain ⟨p0, p1, p2, p3⟩ := P.out w1 T1.out
  obtain ⟨fn, fd, hfo⟩ : ∃ fn fd, foot ps (X, Y, D) s = (fn, fd) := ⟨_, _, rfl⟩
  have HFO := Lib.hid hfo
  rw [hfo]
  clear hfo
  dsimp only
  obtain ⟨V, hV⟩ : ∃ V, V = w1.alloc (.cells #[.int .i64 fn, .int .i64 fd] 88) := ⟨_, rfl⟩
  have BV := Lib.hid (show Below W0.heap.size W0 V by rw [hV]; exact Below.al T1.out (Nat.le_refl _) _)
  have a0 : V.cell? ⟨w1.heap.size, 0, none⟩ = some (.int .i64 fn) := by rw [hV]; simp [cell_al]
  have a1 : V.cell? ⟨w1.heap.size, 1, none⟩ = some (.int .i64 fd) := by rw [hV]; simp [cell_al]
  have l2 : w1.heap.size < V.heap.size := by rw [hV]; simp
  go_wp2_with fail
  rw [← hV]
  clear hV p0 p1 p2 p3
  obtain ⟨p0, p1, p2, p3⟩ := P.out V BV.out
  have l0 : w.heap.size < V.heap.size := by have := BV.out.size; have := sz.out; omega
  have x0 := Kl.cell l0 p0
  have x1 := Kl.cell l0 p1
  have x2 := Kl.cell l0 p2
  have x3 := Kl.cell l0 p3
  have x4 := Kl.cell l2 a0
  have x5 := Kl.cell l2 a1
  have HPV := Lib.hid (fun (n : Kl V) => (HPP.out.grow (Below.andThen B0.out BV.out (Nat.le_refl _))).grow n.h)
  have e01 : ∀ x : Int, (x == 0) = decide (x = 0) := fun x => rfl
  cases hr : restB ps (X, Y, D) s
  · have HRR : Hid (∀ W, PtsAt W b 0 ps → Calls Try.prog 69 #[.agg #[.slice (some ⟨b, 0, none⟩) ps.length c, .int .i64 X, .int .i64 Y, .int .i64 D], .int .i64 (s : Int)] W fun e w' => e = .returned (.bool false) ∧ Below W.heap.size W w') := Lib.hid (fun W h => by
      have := HR.out W h; rw [hr] at this; exact this)
    have HN := Lib.hid hr
    clear hr HR
    refine wp_region_below (by kernel_rfl) (by kernel_rfl) ?_
    repeat (go_big_quiet_step (first | (go_at_call 69; exact Kl.call (HRR.out _ (HPV.out _))) | (go_at_call 78; exact Kl.call (whole_any _ _))))
    refine wpQuiet_nil ?_
    rintro _ ⟨wq, rfl⟩
    go_wp2_with fail
    go_ret
    exact ⟨ret_bool (by rw [Fin.out, HN.out]; rfl), Below.andThen B0.out (Below.andThen BV.out wq.h (Nat.le_refl _)) (Nat.le_refl _)⟩
  · have HRR : Hid (∀ W, PtsAt W b 0 ps → Calls Try.prog 69 #[.agg #[.slice (some ⟨b, 0, none⟩) ps.length c, .int .i64 X, .int .i64 Y, .int .i64 D], .int .i64 (s : Int)] W fun e w' => e = .returned (.bool true) ∧ Below W.heap.size W w') := Lib.hid (fun W h => by
      have := HR.out W h; rw [hr] at this; exact this)
    have HN := Lib.hid hr
    clear hr HR
    have hsp : (fn = 0 ∨ fn = 1 ∨ (¬ fn = 0 ∧ ¬ fn = 1)) ∧ (fd = 1 ∨ ¬ fd = 1) := by omega
    obtain ⟨rfl | rfl | ⟨hn0, hn1⟩, rfl | hd1⟩ := hsp
    all_goals
      refine wp_region_below (by kernel_rfl) (by kernel_rfl) ?_
      repeat (go_big_quiet_step (first | (go_at_call 69; exact Kl.call (HRR.out _ (HPV.out _))) | (go_at_call 78; exact Kl.call (whole_any _ _))))
      refine wpQuiet_nil ?_
      rintro _ ⟨wq, rfl⟩
      go_wp2_with fail
      go_ret
      exact ⟨ret_bool (by rw [Fin.out, HN.out, HFO.out]; simp [*]), Below.andThen B0.out (Below.andThen BV.out wq.h (Nat.le_refl _)) (Nat.le_refl _)⟩
end Go.Proofs.Ytlehddifcjklgaa
namespace Go.Proofs.Ytlehddifcjklgaa
open Go.RowKit Go.Shelf
attribute [local go_sem] Oper.semAt_some
/-- slots that have been written -/
def putAll (a : Act) : List Nat → List Value → Act
  | s :: ss, v :: vs => putAll (a.put (some s) v) ss vs
  | _, _ => a

section
variable {P : Program} {Q : Exit → Act → World → Prop}
theorem wpOp_of_list {ops : Array Oper} {i : Nat} {o : Oper} {K : Act → World → Prop} {a : Act} {w : World} (ho : ops[i]? = some o) (h : wpList P ops (Exit.then K Q) [o] a w) : wpOp P ops Q i K a w := by
  unfold wpOp
  simp only [ho]
  unfold wpList at h
  split
  · rename_i hw
    rw [if_pos hw] at h
    exact h.imp (fun h => upon_then h) (fun h => h)
  · rename_i hw
    rw [if_neg hw] at h; exact h
/-- a region whose order is open, by an invariant over what has come up -/
theorem wp_region_inv {id : Nat} {a : Act} {w : World} {l : List Oper} (hm : P.follows .mixedOrders = true) (hd : waitsB l = true) (I : List Bool → Act → World → Prop) (h0 : I (List.replicate l.length false) a w.drew)
    (hstep : ∀ (i : Nat) (o : Oper) (bs : List Bool) (a : Act) (w : World), l[i]? = some o → I bs a w → bs.length = l.length → bs[i]? = some false → (∀ e ∈ o.after, Region.binds .any e = true → bs.getD e.on false = true) →
      wpOp P l.toArray Q i (fun a' w' => I (bs.set i true) a' w') a w)
    (hend : ∀ a w, I (List.replicate l.length true) a w → Q .normal a w) : (Code.region id l.toArray true).wp P Q a w := by
  refine wp_region_any hm ?_
  have key : ∀ (fuel : Nat) (bs : List Bool) (a : Act) (w : World), bs.length = l.length → (bs.filter (! ·)).length ≤ fuel → I bs a w → wpAny P .any l.toArray Q fuel bs.toArray a w := by
    intro fuel
    induction fuel with
    | zero =>
      intro bs a w hl hf hI
      have hall : bs = List.replicate l.length true := by
        rw [List.eq_replicate_iff]
        refine ⟨hl, fun b hb => ?_⟩
        cases b with
        | true => rfl
        | false =>
          have : false ∈ bs.filter (! ·) := List.mem_filter.2 ⟨hb, rfl⟩
          have := List.length_pos_of_mem this; omega
      subst hall
      refine ⟨?_, hend a w hI⟩
      cases hr : Region.ready .any l.toArray (List.replicate l.length true).toArray with
      | nil => rfl
      | cons j js =>
        have hj : j ∈ Region.ready .any l.toArray (List.replicate l.length true).toArray := by rw [hr]; exact List.mem_cons_self
        obtain ⟨h1, o, h2, _⟩ := mem_ready.1 hj
        have hlt : j < l.length := by have := (List.getElem?_eq_some_iff.1 (by simpa using h2 : l[j]? = some o)).1; exact this
        simp [Array.getD, hlt] at h1
    | succ fuel ih =>
      intro bs a w hl hf hI
      have hset : ∀ (i : Nat), (bs.toArray.setIfInBounds i true) = (bs.set i true).toArray := fun i => by simp
      by_cases hall : bs = List.replicate l.length true
      · subst hall
        refine ⟨fun _ => hend a w hI, fun j hj => ?_⟩
        obtain ⟨h1, o, h2, _⟩ := mem_ready.1 hj
        have hlt : j < l.length := by have := (List.getElem?_eq_some_iff.1 (by simpa using h2 : l[j]? = some o)).1; exact this
        simp [Array.getD, hlt] at h1
      · refine ⟨fun hr => ?_, fun j hj => ?_⟩
        · exfalso
          have hex : ∃ b ∈ bs, (!b) = true := by
            false_or_by_contra
            rename_i hno
            refine hall (List.eq_replicate_iff.2 ⟨hl, fun b hb => ?_⟩)
            cases b with
            | true => rfl
            | false => exact absurd ⟨false, hb, rfl⟩ hno
          have hlt : bs.findIdx (! ·) < bs.length := List.findIdx_lt_length.2 hex
          have hf0 : bs[bs.findIdx (! ·)] = false := by have := List.findIdx_getElem (w := hlt); simpa using this
          have hlt2 : bs.findIdx (! ·) < l.length := by omega
          have hmem : bs.findIdx (! ·) ∈ Region.ready .any l.toArray bs.toArray := by
            refine mem_ready.2 ⟨by simp [Array.getD, hlt, hf0], l[bs.findIdx (! ·)], by simp [hlt2], fun e he _ => ?_⟩
            unfold waitsB at hd
            rw [List.all_eq_true] at hd
            have h1 := hd _ (List.mem_range.2 hlt2)
            rw [List.getElem?_eq_getElem hlt2] at h1
            simp only [Option.map_some, Option.getD_some] at h1
            have h2 := (Array.all_eq_true'.1 h1) e he
            have h3 := of_decide_eq_true h2
            have h4 : e.on < bs.length := by omega
            have h5 := List.not_of_lt_findIdx h3
            simp [Array.getD, h4]
            simpa using h5
          rw [hr] at hmem; cases hmem
        · obtain ⟨h1, o, h2, h3⟩ := mem_ready.1 hj
          have h2' : l[j]? = some o := by simpa using h2
          have hlt : j < l.length := (List.getElem?_eq_some_iff.1 h2').1
          have hb : bs[j]? = some false := by
            rw [List.getElem?_eq_getElem (by omega)]
            simp [Array.getD, show j < bs.length by omega] at h1
            rw [h1]
          refine wpOp_mono (fun a' w' h => ?_) (hstep j o bs a w h2' hI hl hb (fun e he hb => by have := h3 e he hb; rw [List.getD_eq_getElem?_getD]; simp only [Array.getD, List.size_toArray] at this; split at this <;> simp_all))
          rw [hset]
          have := filter_set bs j hb
          exact ih _ _ _ (by simpa using hl) (by omega) h
  have := key l.length (List.replicate l.length false) a w.drew (by simp) (by simp) h0
  simpa using this
/-- the same, with the slots that the region writes told apart -/
theorem wp_region_slots {id : Nat} {a : Act} {w : World} {l : List Oper} (hm : P.follows .mixedOrders = true) (hd : waitsB l = true) (slots : List Nat) (J : List Bool → List Value → World → Prop)
    (h0 : ∃ vs, a = putAll a slots vs ∧ J (List.replicate l.length false) vs w.drew)
    (hstep : ∀ (i : Nat) (o : Oper) (bs : List Bool) (vs : List Value) (w : World) (K : Act → World → Prop), l[i]? = some o → J bs vs w → bs.length = l.length → bs[i]? = some false → (∀ e ∈ o.after, Region.binds .any e = true → bs.getD e.on false = true) →
      (∀ vs' w', J (bs.set i true) vs' w' → K (putAll a slots vs') w') → wpOp P l.toArray Q i K (putAll a slots vs) w)
    (hend : ∀ vs w, J (List.replicate l.length true) vs w → Q .normal (putAll a slots vs) w) : (Code.region id l.toArray true).wp P Q a w := by
  refine wp_region_inv hm hd (fun bs a' w' => ∃ vs, a' = putAll a slots vs ∧ J bs vs w') h0 ?_ ?_
  · rintro i o bs a' w' ho ⟨vs, rfl, hJ⟩ hl hb hw
    exact hstep i o bs vs w' _ ho hJ hl hb hw (fun vs' w'' h => ⟨vs', rfl, h⟩)
  · rintro a' w' ⟨vs, rfl, hJ⟩
    exact hend vs w' hJ
end
section
variable {F : Fence} {n : Nat} {P : Program} {Q : Exit → Act → World → Prop}
theorem wpOpIn_of_list {ops : Array Oper} {i : Nat} {o : Oper} {K : Act → World → Prop} {a : Act} {w : World} (ho : ops[i]? = some o) (h : wpListIn F n P ops (Exit.then K Q) [o] a w) : wpOpIn F n P ops Q i K a w := by
  unfold wpOpIn
  simp only [ho]
  unfold wpListIn at h
  split
  · rename_i hw
    rw [if_pos hw] at h
    exact uponIn_then h
  · rename_i hw
    rw [if_neg hw] at h; exact h
/-- a region whose order is open, by an invariant over what has come up -/
theorem wpIn_region_inv {id : Nat} {a : Act} {w : World} {l : List Oper} (hm : P.follows .mixedOrders = true) (hd : waitsB l = true) (I : List Bool → Act → World → Prop) (h0 : I (List.replicate l.length false) a w.drew)
    (hstep : ∀ (i : Nat) (o : Oper) (bs : List Bool) (a : Act) (w : World), l[i]? = some o → I bs a w → bs.length = l.length → bs[i]? = some false → (∀ e ∈ o.after, Region.binds .any e = true → bs.getD e.on false = true) →
      wpOpIn F n P l.toArray Q i (fun a' w' => I (bs.set i true) a' w') a w)
    (hend : ∀ a w, I (List.replicate l.length true) a w → Q .normal a w) : (Code.region id l.toArray true).wpIn F n P Q a w := by
  refine wpIn_region_any hm ?_
  have key : ∀ (fuel : Nat) (bs : List Bool) (a : Act) (w : World), bs.length = l.length → (bs.filter (! ·)).length ≤ fuel → I bs a w → wpAnyIn F n P .any l.toArray Q fuel bs.toArray a w := by
    intro fuel
    induction fuel with
    | zero =>
      intro bs a w hl hf hI
      have hall : bs = List.replicate l.length true := by
        rw [List.eq_replicate_iff]
        refine ⟨hl, fun b hb => ?_⟩
        cases b with
        | true => rfl
        | false =>
          have : false ∈ bs.filter (! ·) := List.mem_filter.2 ⟨hb, rfl⟩
          have := List.length_pos_of_mem this; omega
      subst hall
      refine ⟨?_, hend a w hI⟩
      cases hr : Region.ready .any l.toArray (List.replicate l.length true).toArray with
      | nil => rfl
      | cons j js =>
        have hj : j ∈ Region.ready .any l.toArray (List.replicate l.length true).toArray := by rw [hr]; exact List.mem_cons_self
        obtain ⟨h1, o, h2, _⟩ := mem_ready.1 hj
        have hlt : j < l.length := by have := (List.getElem?_eq_some_iff.1 (by simpa using h2 : l[j]? = some o)).1; exact this
        simp [Array.getD, hlt] at h1
    | succ fuel ih =>
      intro bs a w hl hf hI
      have hset : ∀ (i : Nat), (bs.toArray.setIfInBounds i true) = (bs.set i true).toArray := fun i => by simp
      by_cases hall : bs = List.replicate l.length true
      · subst hall
        refine ⟨fun _ => hend a w hI, fun j hj => ?_⟩
        obtain ⟨h1, o, h2, _⟩ := mem_ready.1 hj
        have hlt : j < l.length := by have := (List.getElem?_eq_some_iff.1 (by simpa using h2 : l[j]? = some o)).1; exact this
        simp [Array.getD, hlt] at h1
      · refine ⟨fun hr => ?_, fun j hj => ?_⟩
        · exfalso
          have hex : ∃ b ∈ bs, (!b) = true := by
            false_or_by_contra
            rename_i hno
            refine hall (List.eq_replicate_iff.2 ⟨hl, fun b hb => ?_⟩)
            cases b with
            | true => rfl
            | false => exact absurd ⟨false, hb, rfl⟩ hno
          have hlt : bs.findIdx (! ·) < bs.length := List.findIdx_lt_length.2 hex
          have hf0 : bs[bs.findIdx (! ·)] = false := by have := List.findIdx_getElem (w := hlt); simpa using this
          have hlt2 : bs.findIdx (! ·) < l.length := by omega
          have hmem : bs.findIdx (! ·) ∈ Region.ready .any l.toArray bs.toArray := by
            refine mem_ready.2 ⟨by simp [Array.getD, hlt, hf0], l[bs.findIdx (! ·)], by simp [hlt2], fun e he _ => ?_⟩
            unfold waitsB at hd
            rw [List.all_eq_true] at hd
            have h1 := hd _ (List.mem_range.2 hlt2)
            rw [List.getElem?_eq_getElem hlt2] at h1
            simp only [Option.map_some, Option.getD_some] at h1
            have h2 := (Array.all_eq_true'.1 h1) e he
            have h3 := of_decide_eq_true h2
            have h4 : e.on < bs.length := by omega
            have h5 := List.not_of_lt_findIdx h3
            simp [Array.getD, h4]
            simpa using h5
          rw [hr] at hmem; cases hmem
        · obtain ⟨h1, o, h2, h3⟩ := mem_ready.1 hj
          have h2' : l[j]? = some o := by simpa using h2
          have hlt : j < l.length := (List.getElem?_eq_some_iff.1 h2').1
          have hb : bs[j]? = some false := by
            rw [List.getElem?_eq_getElem (by omega)]
            simp [Array.getD, show j < bs.length by omega] at h1
            rw [h1]
          refine wpOpIn_mono (fun a' w' h => ?_) (hstep j o bs a w h2' hI hl hb (fun e he hb => by have := h3 e he hb; rw [List.getD_eq_getElem?_getD]; simp only [Array.getD, List.size_toArray] at this; split at this <;> simp_all))
          rw [hset]
          have := filter_set bs j hb
          exact ih _ _ _ (by simpa using hl) (by omega) h
  have := key l.length (List.replicate l.length false) a w.drew (by simp) (by simp) h0
  simpa using this
/-- the same, with the slots that the region writes told apart -/
theorem wpIn_region_slots {id : Nat} {a : Act} {w : World} {l : List Oper} (hm : P.follows .mixedOrders = true) (hd : waitsB l = true) (slots : List Nat) (J : List Bool → List Value → World → Prop)
    (h0 : ∃ vs, a = putAll a slots vs ∧ J (List.replicate l.length false) vs w.drew)
    (hstep : ∀ (i : Nat) (o : Oper) (bs : List Bool) (vs : List Value) (w : World) (K : Act → World → Prop), l[i]? = some o → J bs vs w → bs.length = l.length → bs[i]? = some false → (∀ e ∈ o.after, Region.binds .any e = true → bs.getD e.on false = true) →
      (∀ vs' w', J (bs.set i true) vs' w' → K (putAll a slots vs') w') → wpOpIn F n P l.toArray Q i K (putAll a slots vs) w)
    (hend : ∀ vs w, J (List.replicate l.length true) vs w → Q .normal (putAll a slots vs) w) : (Code.region id l.toArray true).wpIn F n P Q a w := by
  refine wpIn_region_inv hm hd (fun bs a' w' => ∃ vs, a' = putAll a slots vs ∧ J bs vs w') h0 ?_ ?_
  · rintro i o bs a' w' ho ⟨vs, rfl, hJ⟩ hl hb hw
    exact hstep i o bs vs w' _ ho hJ hl hb hw (fun vs' w'' h => ⟨vs', rfl, h⟩)
  · rintro a' w' ⟨vs, rfl, hJ⟩
    exact hend vs w' hJ
end
end Go.Proofs.Ytlehddifcjklgaa
