import Derived.Test.YtlamppplnojpbaaRows
import Derived.Maps.OwnIn
import Derived.Maps.AppendAt
import Derived.RangeFuncNested
import Derived.RangeFuncBound
import Derived.RangeFuncCalls
import Derived.RangeFuncLeaves
import Derived.Shelf.Abstract
import Derived.Shelf.RegionOpen
import Derived.WalkKit
import Derived.OwnWalkIn
import Derived.TacticsInMore
import Derived.LoopNIn
import Derived.LoopIn
import Derived.WalkSpells
import Derived.WalkLawsBesides
import Derived.BigQuiet
import Derived.Deep.QuietTactic
import Derived.Lib.Hide
import Derived.Deep.RegionHeld3
import Derived.StillTailTactics
import Derived.Deep.LoopGhost
import Derived.Maps.OwnSet
import Derived.Lib.IndexAny
import Derived.Sort.QuietThIn
import Derived.Sort.QuietTacIn
import Derived.Sort.BigQuietIn
namespace Go.Proofs.Ytlamppplnojpbaa
def Bd (B x : Int) : Prop := -B ≤ x ∧ x ≤ B
theorem Bd.mono {B C x : Int} (h : Bd B x) (hc : B ≤ C) : Bd C x := ⟨by have := h.1; omega, by have := h.2; omega⟩
theorem Bd.add {B C x y : Int} (h : Bd B x) (k : Bd C y) : Bd (B + C) (x + y) := by
  unfold Bd at *; omega
theorem Bd.sub {B C x y : Int} (h : Bd B x) (k : Bd C y) : Bd (B + C) (x - y) := by
  unfold Bd at *; omega
theorem Bd.neg {B x : Int} (h : Bd B x) : Bd B (-x) := by
  unfold Bd at *; omega
theorem Bd.abs {B x : Int} : Bd B x ↔ (x.natAbs : Int) ≤ B := by unfold Bd; omega
theorem Bd.mul {B C x y : Int} (h : Bd B x) (k : Bd C y) : Bd (B * C) (x * y) := by
  rw [Bd.abs] at *
  rw [Int.natAbs_mul, Int.natCast_mul]
  exact Int.mul_le_mul h k (by omega) (by omega)
theorem Bd.tdiv {B x g : Int} (h : Bd B x) : Bd B (x.tdiv g) := by
  rw [Bd.abs] at *
  have : (x.tdiv g).natAbs ≤ x.natAbs := by
    rw [Int.natAbs_tdiv]; exact Nat.div_le_self _ _
  omega
open Go.RowKit Go.Shelf
attribute [local go_sem] Oper.semAt_some
theorem i64_of (x : Int) (h : -4611686018427387904 ≤ x) (h' : x ≤ 4611686018427387903) : IntKind.i64.wrap x = x :=
  IntWalk.i64_in _ (by omega)
theorem i64_bd {x B : Int} (h : Bd B x) (hB : B ≤ 4611686018427387903) : IntKind.i64.wrap x = x := by
  unfold Bd at h; exact i64_of x (by omega) (by omega)
theorem ret_bool {a b : Bool} (h : a = b) : Ending.returned (.bool a) = .returned (.bool b) := by rw [h]
theorem ret_int {k : IntKind} {a b : Int} (h : a = b) : Ending.returned (.int k a) = .returned (.int k b) := by rw [h]
theorem drewN_drewN (w : World) (a b : Nat) : (w.drewN a).drewN b = w.drewN (a + b) := by
  unfold World.drewN; simp [Nat.add_assoc]
theorem drew_drewN (w : World) (a : Nat) : (w.drewN a).drew = w.drewN (a + 1) := by
  unfold World.drewN World.drew; simp [Nat.add_assoc]
theorem below_at {B : Nat} {w w' : World} (hb : Below B w w') {b o : Nat} {v : Value} (hg : b < B) (h : w.cell? ⟨b, o, none⟩ = some v) : w'.cell? ⟨b, o, none⟩ = some v := (hb.cell (p := ⟨b, o, none⟩) hg).trans h
theorem Below.andThen {B : Nat} {w W W' : World} (h : Below B w W) (h' : Below W.heap.size W W') (hB : B ≤ w.heap.size) : Below B w W' :=
  h.trans (h'.mono (Nat.le_trans hB h.size))
theorem Below.al {B : Nat} {w W : World} (h : Below B w W) (hB : B ≤ w.heap.size) (o : Obj) : Below B w (W.alloc o) := h.alloc (Nat.le_trans hB h.size) _
theorem cell_al (w : World) (cs : Array Value) (t : TypeId) (b o : Nat) : (w.alloc (.cells cs t)).cell? ⟨b, o, none⟩ = if b = w.heap.size then cs[o]? else w.cell? ⟨b, o, none⟩ := by
  by_cases h : b = w.heap.size
  · subst h; rw [if_pos rfl, cell_of_row _ _ _ cs t (0, 0) (heap_alloc_new w _)]
  · rw [if_neg h]
    exact World.cell?_of_block (w := w) (a := ⟨b, o, none⟩) (by show (w.heap.push _)[b]? = _; rw [Array.getElem?_push, if_neg h])
theorem frozen_al (w : World) (cs : Array Value) (t : TypeId) (b o : Nat) : (w.alloc (.cells cs t)).frozen? ⟨b, o, none⟩ = if b = w.heap.size then false else w.frozen? ⟨b, o, none⟩ := by
  by_cases h : b = w.heap.size
  · subst h; rw [if_pos rfl, frozen_of_row _ _ _ cs t (heap_alloc_new w _)]
  · rw [if_neg h]
    exact World.frozen?_of_block (w := w) (a := ⟨b, o, none⟩) (by show (w.heap.push _)[b]? = _; rw [Array.getElem?_push, if_neg h])
theorem size_al (w : World) (o : Obj) : (w.alloc o).heap.size = w.heap.size + 1 := by simp

/-- block g is a row of cells of the element type E -/
def Row (w : World) (g : Nat) (E : TypeId) (vs : List Value) : Prop := w.heap[g]? = some (.cells vs.toArray E (0, 0))
theorem Row.cell {w : World} {g : Nat} {E : TypeId} {vs : List Value} (h : Row w g E vs) (i : Nat) : w.cell? ⟨g, i, none⟩ = vs[i]? := by
  rw [cell_of_row w g i _ _ _ h]; simp
theorem Row.lt {w : World} {g : Nat} {E : TypeId} {vs : List Value} (h : Row w g E vs) : g < w.heap.size :=
  (Array.getElem?_eq_some_iff.1 h).1
theorem Row.below {B : Nat} {w w' : World} {g : Nat} {E : TypeId} {vs : List Value} (h : Row w g E vs) (hb : Below B w w') (hg : g < B) : Row w' g E vs := by
  unfold Row; rw [hb.block g hg]; exact h
theorem Row.new (w : World) (E : TypeId) (vs : List Value) : Row (w.alloc (.cells vs.toArray E)) w.heap.size E vs :=
  heap_alloc_new w _

def encI (x : Int) : Value := .int .i64 x
/-- the numbers of zs lie at block b from offset o on -/
structure IntsAt (w : World) (b o : Nat) (zs : List Int) : Prop where
  lt : zs = [] ∨ b < w.heap.size
  at_ : ∀ i (h : i < zs.length), w.cell? ⟨b, o + i, none⟩ = some (.int .i64 zs[i])
theorem IntsAt.below {B : Nat} {w w' : World} {b o : Nat} {zs : List Int} (h : IntsAt w b o zs) (hb : Below B w w') (hB : b < B) : IntsAt w' b o zs :=
  ⟨h.lt.imp id (fun x => Nat.lt_of_lt_of_le x hb.size), fun i hi => below_at hb hB (h.at_ i hi)⟩

/-- a world that holds all that w holds -/
structure Kl (w : World) where
  W : World
  h : Below w.heap.size w W
theorem wp_region_below {P : Program} {id : Nat} {Q : Exit → Act → World → Prop} {a : Act} {w : World} {l : List Oper} (hm : P.follows .mixedOrders = true) (hB : Region.lexB .any l.toArray = true)
    (h : wpQuiet P l.toArray (fun w' => ∃ n : Kl w, w' = n.W) (fun a' => ∀ w', (∃ n : Kl w, w' = n.W) → Q .normal a' w') l a) : (Code.region id l.toArray true).wp P Q a w :=
  wp_region_quiet (C := fun w' => ∃ n : Kl w, w' = n.W) hm hB ⟨⟨w.drew, (Below.refl _ _).drew⟩, rfl⟩ (by simpa using h)
theorem Kl.call {P : Program} {f : FuncId} {args : Array Value} {w : World} {x : Kl w} {v : Value}
    (h : Calls P f args x.W fun e w' => e = .returned v ∧ Below x.W.heap.size x.W w') : Calls P f args x.W fun e w'' => e = .returned v ∧ ∃ n : Kl w, w'' = n.W :=
  h.mono fun _ w' ⟨he, hb⟩ => ⟨he, ⟨w', Below.andThen x.h hb (Nat.le_refl _)⟩, rfl⟩
theorem Kl.cell {w : World} {b o : Nat} {v : Value} (hb : b < w.heap.size) (h : w.cell? ⟨b, o, none⟩ = some v) (x : Kl w) : x.W.cell? ⟨b, o, none⟩ = some v := below_at x.h hb h
instance (w : World) : Nonempty (Kl w) := ⟨⟨w, Below.refl _ _⟩⟩

/-- v is a slice of the numbers zs -/
def SlI (w : World) (v : Value) (zs : List Int) : Prop := ∃ a c, v = .slice a zs.length c ∧ zs.length ≤ c ∧ (zs = [] ∨ ∃ b o, a = some ⟨b, o, none⟩ ∧ b < w.heap.size ∧ IntsAt w b o zs)
theorem SlI.grow {w w' : World} {v : Value} {zs : List Int} (h : SlI w v zs) (hb : Below w.heap.size w w') : SlI w' v zs := by
  obtain ⟨a, c, rfl, hc, h⟩ := h
  refine ⟨a, c, rfl, hc, h.imp id ?_⟩
  rintro ⟨b, o, rfl, hl, hi⟩
  exact ⟨b, o, rfl, Nat.lt_of_lt_of_le hl hb.size, hi.below hb hl⟩
theorem SlI.growFrom {w w' : World} {v : Value} {zs : List Int} (h : SlI w v zs) (hb : Below w.heap.size w w') : SlI w' v zs := h.grow hb
def sizeB (z : Int) : Bool := decide (1 ≤ z) && decide (z ≤ 12)
/-- sizes of jugs -/
def jugsB (zs : List Int) : Bool := decide (1 ≤ zs.length) && decide (zs.length ≤ 4) && zs.all sizeB
theorem jugsB_bad {zs : List Int} (z : Int) (hz : z ∈ zs) (h : z < 1 ∨ 12 < z) : jugsB zs = false := by
  unfold jugsB
  rw [Bool.and_eq_false_iff]; right
  rw [List.all_eq_false]; exact ⟨z, hz, by unfold sizeB; simp; omega⟩
theorem jugsB_len {zs : List Int} (h : jugsB zs = true) : 1 ≤ zs.length ∧ zs.length ≤ 4 := by
  unfold jugsB at h
  simp only [Bool.and_eq_true, decide_eq_true_eq] at h
  exact h.1
theorem jugsB_in {zs : List Int} (h : jugsB zs = true) {z : Int} (hz : z ∈ zs) : 1 ≤ z ∧ z ≤ 12 := by
  unfold jugsB at h
  rw [Bool.and_eq_true, List.all_eq_true] at h
  have := h.2 z hz
  unfold sizeB at this
  simpa using this
def errJ (zs : List Int) : Int := if jugsB zs = true then 0 else 20
set_option maxHeartbeats 400000 in
theorem check_any (zs : List Int) (v : Value) (w : World) (hv : SlI w v zs) (hl : zs.length ≤ 1000000) :
    Calls Try.prog 46 #[v] w fun e w' => e = .returned (.int .i64 (errJ zs)) ∧ Below w.heap.size w w' := by
  obtain ⟨a, c, rfl, hc, hs⟩ := hv
  by_cases h1 : zs.length < 1
  · have fin : errJ zs = 20 := by unfold errJ jugsB; simp; omega
    have Fin := Lib.hid fin
    have d1 : decide ((zs.length : Int) < 1) = true := decide_eq_true (by omega)
    clear fin hs
    go_enter Try.func46, Try.ntmps46
    go_wp2
    go_ret
    exact ⟨ret_int Fin.out.symm, Below.refl _ _⟩
  by_cases h4 : 4 < zs.length
  · have fin : errJ zs = 20 := by unfold errJ jugsB; simp; omega
    have Fin := Lib.hid fin
    have d1 : decide ((zs.length : Int) < 1) = false := decide_eq_false (by omega)
    have d2 : decide (4 < (zs.length : Int)) = true := decide_eq_true (by omega)
    clear fin hs
    go_enter Try.func46, Try.ntmps46
    go_wp2
    go_ret
    exact ⟨ret_int Fin.out.symm, Below.refl _ _⟩
  obtain ⟨b, o, rfl, hbl, hi⟩ : ∃ b o, a = some ⟨b, o, none⟩ ∧ b < w.heap.size ∧ IntsAt w b o zs := hs.resolve_left (fun e => by rw [e] at h1; simp at h1)
  have HI := Lib.hid hi
  have d1 : decide ((zs.length : Int) < 1) = false := decide_eq_false (by omega)
  have d2 : decide (4 < (zs.length : Int)) = false := decide_eq_false (by omega)
  clear hs hi
  go_enter Try.func46, Try.ntmps46
  go_wp2
  go_loopw [15] (fun i wr => ∃ k : Nat, k ≤ zs.length ∧ i = .int .i64 (k : Int) ∧ Hid (Below w.heap.size w wr) ∧ Hid ((zs.take k).all sizeB = true)) (fun i _ => zs.length - (intOf i).toNat)
  case atStart => exact ⟨0, by omega, rfl, Lib.hid (Below.refl _ _), Lib.hid rfl⟩
  case round =>
    obtain ⟨k, hk, rfl, HB, HK⟩ := hrel
    by_cases hlt : k < zs.length
    · have hd : decide ((k : Int) < (zs.length : Int)) = true := decide_eq_true (by omega)
      have hx := below_at HB.out hbl (HI.out.at_ k hlt)
      have HM := Lib.hid (List.getElem_mem hlt)
      have HS := Lib.hid (show (zs.take (k + 1)).all sizeB = sizeB zs[k] by
        rw [List.take_succ_eq_append_getElem hlt, List.all_append, HK.out]; simp)
      clear HK
      generalize zs[k] = z at *
      by_cases hz1 : z < 1
      · have d3 : decide (z < 1) = true := decide_eq_true hz1
        have fin := Lib.hid (show errJ zs = 20 by unfold errJ; rw [jugsB_bad z HM.out (.inl hz1)]; rfl)
        go_wp2_with fail
        go_ret
        exact ⟨ret_int fin.out.symm, HB.out⟩
      by_cases hz2 : 12 < z
      · have d3 : decide (z < 1) = false := decide_eq_false hz1
        have d4 : decide (12 < z) = true := decide_eq_true hz2
        have fin := Lib.hid (show errJ zs = 20 by unfold errJ; rw [jugsB_bad z HM.out (.inr hz2)]; rfl)
        go_wp2_with fail
        go_ret
        exact ⟨ret_int fin.out.symm, HB.out⟩
      have d3 : decide (z < 1) = false := decide_eq_false hz1
      have d4 : decide (12 < z) = false := decide_eq_false hz2
      go_wp2_with fail
      go_roundw
      case rel => exact ⟨k + 1, by omega, by simp, HB, Lib.hid (by rw [HS.out]; unfold sizeB; simp; omega)⟩
      case measure => simp [intOf]; omega
    · have hd : decide ((k : Int) < (zs.length : Int)) = false := decide_eq_false (by omega)
      have hk2 : k = zs.length := by omega
      subst hk2
      have fin := Lib.hid (show errJ zs = 0 by
        have h := HK.out
        rw [List.take_length] at h
        unfold errJ jugsB; rw [h]; simp; omega)
      go_wp2_with fail
      go_ret
      exact ⟨ret_int fin.out.symm, HB.out⟩
/-- a filling of jugs -/
def fitsB (zs fs : List Int) : Bool := decide (fs.length = zs.length) && (List.range fs.length).all fun i => decide (0 ≤ fs.getD i 0) && decide (fs.getD i 0 ≤ zs.getD i 0)
theorem getD_lt {zs : List Int} {i : Nat} (h : i < zs.length) : zs.getD i 0 = zs[i] := by simp [List.getD, h]
set_option maxHeartbeats 400000 in
theorem fits_any (zs fs : List Int) (v u : Value) (w : World) (hv : SlI w v zs) (hu : SlI w u fs) (hl : zs.length ≤ 4) :
    Calls Try.prog 69 #[v, u] w fun e w' => e = .returned (.bool (fitsB zs fs)) ∧ Below w.heap.size w w' := by
  obtain ⟨a, c, rfl, hc, hs⟩ := hv
  obtain ⟨a', c', rfl, hc', hs'⟩ := hu
  by_cases hne : fs.length = zs.length
  case neg =>
    have fin := Lib.hid (show fitsB zs fs = false by unfold fitsB; simp [hne])
    have d1 : decide ((fs.length : Int) = (zs.length : Int)) = false := decide_eq_false (by omega)
    have d2 : ((fs.length : Int) == (zs.length : Int)) = false := by simp; omega
    clear hs hs' hne
    go_enter Try.func69, Try.ntmps69
    go_wp2_with fail
    go_ret
    exact ⟨ret_bool fin.out.symm, Below.refl _ _⟩
  case pos =>
    rw [hne]
    rw [hne] at hc'
    have HNE := Lib.hid hne
    have HS := Lib.hid hs
    have HS' := Lib.hid hs'
    clear hs hs' hne
    go_enter Try.func69, Try.ntmps69
    go_wp2_with fail
    go_loopw [14] (fun i wr => ∃ k : Nat, k ≤ zs.length ∧ i = .int .i64 (k : Int) ∧ Hid (Below w.heap.size w wr) ∧ Hid (∀ j, j < k → 0 ≤ fs.getD j 0 ∧ fs.getD j 0 ≤ zs.getD j 0)) (fun i _ => zs.length - (intOf i).toNat)
    case atStart => exact ⟨0, by omega, rfl, Lib.hid (Below.refl _ _), Lib.hid (fun j hj => by omega)⟩
    case round =>
      obtain ⟨k, hk, rfl, HB, HK⟩ := hrel
      by_cases hlt : k < zs.length
      · have hd : decide ((k : Int) < (zs.length : Int)) = true := decide_eq_true (by omega)
        have hkf : k < fs.length := by have := HNE.out; omega
        obtain ⟨b, o, rfl, hbl, hi⟩ : ∃ b o, a = some ⟨b, o, none⟩ ∧ b < w.heap.size ∧ IntsAt w b o zs := HS.out.resolve_left (fun e => by rw [e] at hlt; simp at hlt)
        obtain ⟨b', o', rfl, hbl', hi'⟩ : ∃ b o, a' = some ⟨b, o, none⟩ ∧ b < w.heap.size ∧ IntsAt w b o fs := HS'.out.resolve_left (fun e => by rw [e] at hkf; simp at hkf)
        have hx := below_at HB.out hbl (hi.at_ k hlt)
        have hy := below_at HB.out hbl' (hi'.at_ k hkf)
        rw [← getD_lt hlt] at hx
        rw [← getD_lt hkf] at hy
        have HBAD := Lib.hid (show (fs.getD k 0 < 0 ∨ zs.getD k 0 < fs.getD k 0) → fitsB zs fs = false from fun h => by
          unfold fitsB
          rw [Bool.and_eq_false_iff]; right
          rw [List.all_eq_false]
          exact ⟨k, List.mem_range.2 hkf, by simp only [Bool.and_eq_true, decide_eq_true_eq]; omega⟩)
        have HOK := Lib.hid (show (0 ≤ fs.getD k 0 ∧ fs.getD k 0 ≤ zs.getD k 0) → ∀ j, j < k + 1 → 0 ≤ fs.getD j 0 ∧ fs.getD j 0 ≤ zs.getD j 0 from fun h j hj => by
          rcases Nat.lt_or_ge j k with h' | h'
          · exact HK.out j h'
          · rw [show j = k by omega]; exact h)
        clear HK hi hi' hkf
        generalize zs.getD k 0 = z at *
        generalize fs.getD k 0 = y at *
        by_cases hz1 : y < 0
        · have d3 : decide (y < 0) = true := decide_eq_true hz1
          have fin := Lib.hid (HBAD.out (.inl hz1))
          go_wp2_with fail
          go_ret
          exact ⟨ret_bool fin.out.symm, HB.out⟩
        have d3 : decide (y < 0) = false := decide_eq_false hz1
        by_cases hz2 : z < y
        · have d4 : decide (z < y) = true := decide_eq_true hz2
          have fin := Lib.hid (HBAD.out (.inr hz2))
          go_wp2_with fail
          go_ret
          exact ⟨ret_bool fin.out.symm, HB.out⟩
        have d4 : decide (z < y) = false := decide_eq_false hz2
        have fin := Lib.hid (HOK.out ⟨by omega, by omega⟩)
        go_wp2_with fail
        go_roundw
        case rel => exact ⟨k + 1, by omega, by simp, HB, fin⟩
        case measure => simp [intOf]; omega
      · have hd : decide ((k : Int) < (zs.length : Int)) = false := decide_eq_false (by omega)
        have fin := Lib.hid (show fitsB zs fs = true by
          unfold fitsB
          rw [Bool.and_eq_true, decide_eq_true_eq, List.all_eq_true]
          refine ⟨HNE.out, fun i hi => ?_⟩
          have := HK.out i (by have := List.mem_range.1 hi; have := HNE.out; omega)
          simp only [Bool.and_eq_true, decide_eq_true_eq]; exact this)
        clear HK
        go_wp2_with fail
        go_ret
        exact ⟨ret_bool fin.out.symm, HB.out⟩
/-- v is a slice of slices of numbers -/
def SlS (w : World) (v : Value) (fss : List (List Int)) : Prop := ∃ a c, v = .slice a fss.length c ∧ fss.length ≤ c ∧ (fss = [] ∨ ∃ b o, a = some ⟨b, o, none⟩ ∧ b < w.heap.size ∧ ∀ i (h : i < fss.length), ∃ u, w.cell? ⟨b, o + i, none⟩ = some u ∧ SlI w u fss[i])
def errA (zs : List Int) (fss : List (List Int)) : Int := if jugsB zs = true then (if fss.all (fitsB zs) = true then 0 else 1) else 20
set_option maxHeartbeats 400000 in
theorem checkAll_any (zs : List Int) (fss : List (List Int)) (v u : Value) (w : World) (hv : SlI w v zs) (hu : SlS w u fss) (hl : zs.length ≤ 1000000) (hf : fss.length ≤ 4) :
    Calls Try.prog 50 #[v, u] w fun e w' => e = .returned (.int .i64 (errA zs fss)) ∧ Below w.heap.size w w' := by
  obtain ⟨a', c', rfl, hc', hs'⟩ := hu
  have HV := Lib.hid hv
  have HS' := Lib.hid hs'
  have HC := Lib.hid (check_any zs v w hv hl)
  clear hs' hv
  obtain ⟨E, hE⟩ : ∃ E, jugsB zs = E := ⟨_, rfl⟩
  cases E with
  | false =>
    have fin := Lib.hid (show errA zs fss = 20 by unfold errA; rw [hE]; rfl)
    have e1 : errJ zs = 20 := by unfold errJ; rw [hE]; rfl
    rw [e1] at HC
    clear e1 hE
    go_enter Try.func50, Try.ntmps50
    go_wp2_with fail
    refine HC.out.mono ?_
    rintro e w1 ⟨rfl, hb⟩
    have B1 := Lib.hid hb
    clear hb HC
    go_wp2_with fail
    go_ret
    exact ⟨ret_int fin.out.symm, B1.out⟩
  | true =>
    have e1 : errJ zs = 0 := by unfold errJ; rw [hE]; rfl
    rw [e1] at HC
    have hl4 := (jugsB_len hE).2
    have HE := Lib.hid hE
    clear e1 hE
    go_enter Try.func50, Try.ntmps50
    go_wp2_with fail
    refine HC.out.mono ?_
    rintro e w1 ⟨rfl, hb⟩
    have B1 := Lib.hid hb
    clear hb HC
    go_wp2_with fail
    go_loopw [15] (fun i wr => ∃ k : Nat, k ≤ fss.length ∧ i = .int .i64 (k : Int) ∧ Hid (Below w.heap.size w wr) ∧ Hid ((fss.take k).all (fitsB zs) = true)) (fun i _ => fss.length - (intOf i).toNat)
    case atStart => exact ⟨0, by omega, rfl, B1, Lib.hid rfl⟩
    case round =>
      clear B1
      obtain ⟨k, hk, rfl, HB, HK⟩ := hrel
      by_cases hlt : k < fss.length
      · have hd : decide ((k : Int) < (fss.length : Int)) = true := decide_eq_true (by omega)
        obtain ⟨b, o, rfl, hbl, hi⟩ : ∃ b o, a' = some ⟨b, o, none⟩ ∧ b < w.heap.size ∧ ∀ i (h : i < fss.length), ∃ u, w.cell? ⟨b, o + i, none⟩ = some u ∧ SlI w u fss[i] := HS'.out.resolve_left (fun e => by rw [e] at hlt; simp at hlt)
        obtain ⟨u, hcu, hu⟩ := hi k hlt
        have hx := below_at HB.out hbl hcu
        have HS := Lib.hid (show (fss.take (k + 1)).all (fitsB zs) = fitsB zs fss[k] by
          rw [List.take_succ_eq_append_getElem hlt, List.all_append, HK.out]; simp)
        have HM := Lib.hid (List.getElem_mem hlt)
        have HC := Lib.hid (fits_any zs fss[k] v u wr (HV.out.growFrom HB.out) (hu.growFrom HB.out) hl4)
        clear HK hi hcu hu
        generalize fss[k] = fs at *
        obtain ⟨E, hE⟩ : ∃ E, fitsB zs fs = E := ⟨_, rfl⟩
        rw [hE] at HC HS
        cases E with
        | false =>
          have fin := Lib.hid (show errA zs fss = 1 by
            unfold errA
            rw [HE.out, if_pos rfl, if_neg]
            intro h
            rw [List.all_eq_true] at h
            rw [h fs HM.out] at hE
            cases hE)
          clear hE
          go_wp2_with fail
          refine HC.out.mono ?_
          rintro e w2 ⟨rfl, hb⟩
          have B2 := Lib.hid (Below.andThen HB.out hb (Nat.le_refl _))
          clear hb HC HB
          go_wp2_with fail
          go_ret
          exact ⟨ret_int fin.out.symm, B2.out⟩
        | true =>
          clear hE
          go_wp2_with fail
          refine HC.out.mono ?_
          rintro e w2 ⟨rfl, hb⟩
          have B2 := Lib.hid (Below.andThen HB.out hb (Nat.le_refl _))
          clear hb HC HB
          go_wp2_with fail
          go_roundw
          case rel => exact ⟨k + 1, by omega, by simp, B2, HS⟩
          case measure => simp [intOf]; omega
      · have hd : decide ((k : Int) < (fss.length : Int)) = false := decide_eq_false (by omega)
        have hk2 : k = fss.length := by omega
        subst hk2
        have fin := Lib.hid (show errA zs fss = 0 by
          have h := HK.out
          rw [List.take_length] at h
          unfold errA; rw [HE.out, h]; rfl)
        clear HK
        go_wp2_with fail
        go_ret
        exact ⟨ret_int fin.out.symm, HB.out⟩
/-- a filling as the program keeps it: four numbers, 0 behind the last jug -/
def padF (fs : List Int) : List Int := (fs ++ List.replicate 4 0).take 4
theorem padF_len (fs : List Int) : (padF fs).length = 4 := by unfold padF; rw [List.length_take, List.length_append, List.length_replicate]; omega
def aggI (fs : List Int) : Value := .agg (fs.map encI).toArray
theorem Row.set {w : World} {g : Nat} {E : TypeId} {vs : List Value} (h : Row w g E vs) (i : Nat) (v : Value) : Row (w.setCell ⟨g, i, none⟩ v) g E (vs.set i v) := by
  unfold Row
  have := heap_setCell_same w g i vs.toArray E v h
  rw [this]; simp
theorem size3 : (Try.prog.info? 3).map (·.size) = some 1 := by kernel_rfl
def W4 (w : World) : World := (w.alloc (.cells #[.int .i64 0, .int .i64 0, .int .i64 0, .int .i64 0] 77)).alloc (.cells #[.int .i64 0, .int .i64 0, .int .i64 0, .int .i64 0] 77)
theorem pad_row : ∀ (fs : List Int), fs.length ≤ 4 → ([.int .i64 0, .int .i64 0, .int .i64 0, .int .i64 0] : List Value).toArray.toList.take 0 ++ fs.map encI ++ ([.int .i64 0, .int .i64 0, .int .i64 0, .int .i64 0] : List Value).toArray.toList.drop (0 + fs.length) = (padF fs).map encI
  | [], _ => by simp [padF, encI, List.replicate]
  | [_], _ => by simp [padF, encI, List.replicate]
  | [_, _], _ => by simp [padF, encI, List.replicate]
  | [_, _, _], _ => by simp [padF, encI, List.replicate]
  | [_, _, _, _], _ => by simp [padF, encI, List.replicate]
  | _ :: _ :: _ :: _ :: _ :: _, h => by simp at h
theorem setRow_ne (W : World) (g : Nat) (cs : Array Value) (k : Nat) (hk : k ≠ g) : (W.setRow g cs).heap[k]? = W.heap[k]? := by
  simp only [World.setRow, Array.getElem?_modify]
  rw [if_neg (by omega)]
theorem copy4 (fs : List Int) (a : Option Addr) (c : Nat) (w : World) (hl : fs.length ≤ 4) (hs : fs = [] ∨ ∃ b o, a = some ⟨b, o, none⟩ ∧ b < w.heap.size ∧ IntsAt w b o fs) :
    ∃ W, (Builtin.copy_ #[22, 22] 3 #[.slice (some ⟨w.heap.size + 1, 0, none⟩) 4 4, .slice a fs.length c]).run Try.prog (W4 w) = .ok (goInt fs.length) W ∧ Row W (w.heap.size + 1) 77 ((padF fs).map encI) ∧ Row W w.heap.size 77 [.int .i64 0, .int .i64 0, .int .i64 0, .int .i64 0] ∧ Below w.heap.size w W := by
  have hb : Below w.heap.size w (W4 w) := Below.al (Below.al (Below.refl _ _) (Nat.le_refl _) _) (Nat.le_refl _) _
  have r1 : Row (W4 w) (w.heap.size + 1) 77 [.int .i64 0, .int .i64 0, .int .i64 0, .int .i64 0] := by
    have := Row.new (w.alloc (.cells #[.int .i64 0, .int .i64 0, .int .i64 0, .int .i64 0] 77)) 77 [.int .i64 0, .int .i64 0, .int .i64 0, .int .i64 0]
    rw [size_al] at this
    exact this
  have r0 : Row (W4 w) w.heap.size 77 [.int .i64 0, .int .i64 0, .int .i64 0, .int .i64 0] := by
    have h := Row.new w 77 [.int .i64 0, .int .i64 0, .int .i64 0, .int .i64 0]
    exact h.below (Below.al (Below.refl (w.heap.size + 1) _) (by rw [size_al]; omega) _) (by omega)
  rcases hs with rfl | ⟨b, o, rfl, hbl, hi⟩
  · exact ⟨W4 w, run_copy_none _ 22 22 3 3 _ _ _ _ _ _ Try.underlying22 size3 (by simp), r1, r0, hb⟩
  · have hlen : (fs.map encI).length = Nat.min fs.length 4 := by rw [List.length_map]; exact (Nat.min_eq_left hl).symm
    have h := run_copy_row (P := Try.prog) (W4 w) 22 22 3 3 (w.heap.size + 1) 0 4 4 ⟨b, o, none⟩ fs.length c _ 77 (fs.map encI) Try.underlying22 size3 r1 hlen
      (fun j v hj => by
        have hj' : j < fs.length := by
          have := (List.getElem?_eq_some_iff.1 hj).1
          rwa [List.length_map] at this
        rw [Go.WideShapes.add_plain]
        have h1 := below_at hb hbl (hi.at_ j hj')
        rw [h1]
        rw [List.getElem?_map, List.getElem?_eq_getElem hj'] at hj
        simpa [encI] using hj)
      (by rw [hlen]; exact Nat.le_trans (Nat.add_le_add_left (Nat.min_le_right _ _) 0) (by decide)) (fun v hv => by
        obtain ⟨x, _, rfl⟩ := List.mem_map.1 hv
        simp [encI, Value.oneCell'])
    rw [List.length_map] at h
    have hs2 : (W4 w).heap.size = w.heap.size + 2 := by unfold W4; rw [size_al, size_al]
    refine ⟨_, h, ?_, ?_, ?_⟩
    · unfold Row
      have hlt := (Array.getElem?_eq_some_iff.1 r1).1
      obtain ⟨_, he⟩ := Array.getElem?_eq_some_iff.1 r1
      rw [pad_row fs hl]
      simp [World.setRow, hlt, he, Array.getElem_modify]
    · unfold Row; rw [setRow_ne _ _ _ _ (by omega)]; exact r0
    · exact hb.trans ⟨rfl, rfl, rfl, by simp [World.setRow], fun k hk => setRow_ne _ _ _ _ (by omega)⟩
set_option maxRecDepth 100000 in
set_option maxHeartbeats 400000 in
theorem fillingOf_any (fs : List Int) (v : Value) (w : World) (hv : SlI w v fs) (hl : fs.length ≤ 4) :
    Calls Try.prog 52 #[v] w fun e w' => e = .returned (aggI (padF fs)) ∧ Below w.heap.size w w' := by
  obtain ⟨a, c, rfl, hc, hs⟩ := hv
  obtain ⟨W, hW, hr1, hr0, hb⟩ := copy4 fs a c w hl hs
  unfold W4 at hW
  have R0 := Lib.hid hr0
  have R1 := Lib.hid hr1
  have B1 := Lib.hid hb
  have hpl := padF_len fs
  generalize padF fs = P at *
  obtain ⟨p0, p1, p2, p3, rfl⟩ : ∃ p0 p1 p2 p3, P = [p0, p1, p2, p3] := by
    match P, hpl with
    | [a, b, c, d], _ => exact ⟨a, b, c, d, rfl⟩
  have c0 := hr1.cell 0
  have c1 := hr1.cell 1
  have c2 := hr1.cell 2
  have c3 := hr1.cell 3
  have z0 := hr0.cell 0
  have z1 := hr0.cell 1
  have z2 := hr0.cell 2
  have z3 := hr0.cell 3
  have f0 := frozen_of_row _ w.heap.size 0 _ _ hr0
  have f1 := frozen_of_row _ w.heap.size 1 _ _ hr0
  have f2 := frozen_of_row _ w.heap.size 2 _ _ hr0
  have f3 := frozen_of_row _ w.heap.size 3 _ _ hr0
  simp only [List.map_cons, List.map_nil, List.getElem?_cons_zero, List.getElem?_cons_succ, encI] at c0 c1 c2 c3 z0 z1 z2 z3
  clear hs hr1 hr0 hb hpl
  go_enter Try.func52, Try.ntmps52
  go_wp2_with fail
  have hr : Row ((((W.setCell ⟨w.heap.size, 0, none⟩ (.int .i64 p0)).setCell ⟨w.heap.size, 1, none⟩ (.int .i64 p1)).setCell ⟨w.heap.size, 2, none⟩ (.int .i64 p2)).setCell ⟨w.heap.size, 3, none⟩ (.int .i64 p3)) w.heap.size 77 [.int .i64 p0, .int .i64 p1, .int .i64 p2, .int .i64 p3] := by
    simpa using (((R0.out.set 0 (.int .i64 p0)).set 1 (.int .i64 p1)).set 2 (.int .i64 p2)).set 3 (.int .i64 p3)
  have v0 := hr.cell 0
  have v1 := hr.cell 1
  have v2 := hr.cell 2
  have v3 := hr.cell 3
  simp only [List.getElem?_cons_zero, List.getElem?_cons_succ] at v0 v1 v2 v3
  refine bodyPost_ret (v := .agg #[.int .i64 p0, .int .i64 p1, .int .i64 p2, .int .i64 p3]) (by simp [results, Try.results52, go_sem, v0, v1, v2, v3]) rfl ⟨rfl, ?_⟩
  exact (((B1.out.setCell (p := ⟨w.heap.size, 0, none⟩) (Nat.le_refl _) _).setCell (p := ⟨w.heap.size, 1, none⟩) (Nat.le_refl _) _).setCell (p := ⟨w.heap.size, 2, none⟩) (Nat.le_refl _) _).setCell (p := ⟨w.heap.size, 3, none⟩) (Nat.le_refl _) _
end Go.Proofs.Ytlamppplnojpbaa
namespace Go.Proofs.Ytlamppplnojpbaa
open Go.RowKit Go.Shelf
attribute [local go_sem] Oper.semAt_some
/-- the jugs as the program keeps them -/
def jugV (zs : List Int) : Value := .agg (#[.int .i64 (zs.length : Int)] ++ ((padF zs).map encI).toArray)
set_option maxRecDepth 100000 in
set_option maxHeartbeats 400000 in
theorem jugsOf_any (zs : List Int) (v : Value) (w : World) (hv : SlI w v zs) (hl : zs.length ≤ 4) :
    Calls Try.prog 51 #[v] w fun e w' => e = .returned (jugV zs) ∧ Below w.heap.size w w' := by
  have hb0 := Below.alloc (Below.refl w.heap.size w) (Nat.le_refl _) (.cells #[.int .i64 0, .int .i64 0, .int .i64 0, .int .i64 0, .int .i64 0] 80)
  have HF := fillingOf_any zs v _ (hv.grow hb0) hl
  have r0 := Row.new w 80 [.int .i64 0, .int .i64 0, .int .i64 0, .int .i64 0, .int .i64 0]
  have R0 := Lib.hid r0
  have B0 := Lib.hid hb0
  obtain ⟨a, c, rfl, hc, hs⟩ := hv
  have hpl := padF_len zs
  unfold jugV
  unfold aggI at HF
  generalize padF zs = P at *
  obtain ⟨p0, p1, p2, p3, rfl⟩ : ∃ p0 p1 p2 p3, P = [p0, p1, p2, p3] := by
    match P, hpl with
    | [a, b, c, d], _ => exact ⟨a, b, c, d, rfl⟩
  simp only [List.map_cons, List.map_nil, encI] at HF ⊢
  have HF := Lib.hid HF
  clear hs hpl hb0 r0
  go_enter Try.func51, Try.ntmps51
  go_wp2_with fail
  refine HF.out.mono ?_
  rintro e w1 ⟨rfl, hb⟩
  have B1 := Lib.hid (Below.andThen B0.out hb (by simp))
  have r1 := R0.out.below hb R0.out.lt
  have R1 := Lib.hid r1
  have z0 := r1.cell 0
  have z1 := r1.cell 1
  have z2 := r1.cell 2
  have z3 := r1.cell 3
  have z4 := r1.cell 4
  have f0 := frozen_of_row _ w.heap.size 0 _ _ r1
  have f1 := frozen_of_row _ w.heap.size 1 _ _ r1
  have f2 := frozen_of_row _ w.heap.size 2 _ _ r1
  have f3 := frozen_of_row _ w.heap.size 3 _ _ r1
  have f4 := frozen_of_row _ w.heap.size 4 _ _ r1
  simp only [List.getElem?_cons_zero, List.getElem?_cons_succ] at z0 z1 z2 z3 z4
  clear hb HF r1 B0 R0
  go_wp2_with fail
  have hr : Row (((((w1.setCell ⟨w.heap.size, 0, none⟩ (.int .i64 (zs.length : Int))).setCell ⟨w.heap.size, 1, none⟩ (.int .i64 p0)).setCell ⟨w.heap.size, 2, none⟩ (.int .i64 p1)).setCell ⟨w.heap.size, 3, none⟩ (.int .i64 p2)).setCell ⟨w.heap.size, 4, none⟩ (.int .i64 p3)) w.heap.size 80 [.int .i64 (zs.length : Int), .int .i64 p0, .int .i64 p1, .int .i64 p2, .int .i64 p3] := by
    simpa using ((((R1.out.set 0 (.int .i64 (zs.length : Int))).set 1 (.int .i64 p0)).set 2 (.int .i64 p1)).set 3 (.int .i64 p2)).set 4 (.int .i64 p3)
  have v0 := hr.cell 0
  have v1 := hr.cell 1
  have v2 := hr.cell 2
  have v3 := hr.cell 3
  have v4 := hr.cell 4
  simp only [List.getElem?_cons_zero, List.getElem?_cons_succ] at v0 v1 v2 v3 v4
  refine bodyPost_ret (v := .agg #[.int .i64 (zs.length : Int), .int .i64 p0, .int .i64 p1, .int .i64 p2, .int .i64 p3]) (by simp [results, Try.results51, go_sem, v0, v1, v2, v3, v4]) rfl ⟨rfl, ?_⟩
  exact ((((B1.out.setCell (p := ⟨w.heap.size, 0, none⟩) (Nat.le_refl _) _).setCell (p := ⟨w.heap.size, 1, none⟩) (Nat.le_refl _) _).setCell (p := ⟨w.heap.size, 2, none⟩) (Nat.le_refl _) _).setCell (p := ⟨w.heap.size, 3, none⟩) (Nat.le_refl _) _).setCell (p := ⟨w.heap.size, 4, none⟩) (Nat.le_refl _) _
/-- the filling that a step makes -/
def afterF (P F : List Int) (f t : Int) : List Int :=
  if f = -1 then F.set t.toNat (P.getD t.toNat 0)
  else if t = -1 then F.set f.toNat 0
  else (F.set f.toNat (F.getD f.toNat 0 - min (F.getD f.toNat 0) (P.getD t.toNat 0 - F.getD t.toNat 0))).set t.toNat (F.getD t.toNat 0 + min (F.getD f.toNat 0) (P.getD t.toNat 0 - F.getD t.toNat 0))
theorem after_start (w : World) (J F S R : List Value) : ∃ V, V = (((w.alloc (.cells J.toArray 80)).alloc (.cells F.toArray 77)).alloc (.cells S.toArray 48)).alloc (.cells R.toArray 77) ∧
    Row V w.heap.size 80 J ∧ Row V (w.heap.size + 1) 77 F ∧ Row V (w.heap.size + 1 + 1) 48 S ∧ Row V (w.heap.size + 1 + 1 + 1) 77 R ∧ Below w.heap.size w V ∧ V.heap.size = w.heap.size + 4 := by
  obtain ⟨w1, h1⟩ : ∃ w1, w1 = w.alloc (.cells J.toArray 80) := ⟨_, rfl⟩
  obtain ⟨w2, h2⟩ : ∃ w2, w2 = w1.alloc (.cells F.toArray 77) := ⟨_, rfl⟩
  obtain ⟨w3, h3⟩ : ∃ w3, w3 = w2.alloc (.cells S.toArray 48) := ⟨_, rfl⟩
  obtain ⟨w4, h4⟩ : ∃ w4, w4 = w3.alloc (.cells R.toArray 77) := ⟨_, rfl⟩
  have s1 : w1.heap.size = w.heap.size + 1 := by rw [h1, size_al]
  have s2 : w2.heap.size = w.heap.size + 1 + 1 := by rw [h2, size_al, s1]
  have s3 : w3.heap.size = w.heap.size + 1 + 1 + 1 := by rw [h3, size_al, s2]
  have s4 : w4.heap.size = w.heap.size + 4 := by rw [h4, size_al, s3]
  have b1 : Below w.heap.size w w1 := by rw [h1]; exact Below.al (Below.refl _ _) (Nat.le_refl _) _
  have b2 : Below w1.heap.size w1 w2 := by rw [h2]; exact Below.al (Below.refl _ _) (Nat.le_refl _) _
  have b3 : Below w2.heap.size w2 w3 := by rw [h3]; exact Below.al (Below.refl _ _) (Nat.le_refl _) _
  have b4 : Below w3.heap.size w3 w4 := by rw [h4]; exact Below.al (Below.refl _ _) (Nat.le_refl _) _
  have r1 : Row w1 w.heap.size 80 J := by rw [h1]; exact Row.new _ _ _
  have r2 : Row w2 (w.heap.size + 1) 77 F := by rw [h2, ← s1]; exact Row.new _ _ _
  have r3 : Row w3 (w.heap.size + 1 + 1) 48 S := by rw [h3, ← s2]; exact Row.new _ _ _
  have r4 : Row w4 (w.heap.size + 1 + 1 + 1) 77 R := by rw [h4, ← s3]; exact Row.new _ _ _
  refine ⟨w4, by rw [h4, h3, h2, h1], ?_, ?_, ?_, r4, ?_, s4⟩
  · exact ((r1.below b2 r1.lt).below b3 (by omega)).below b4 (by omega)
  · exact (r2.below b3 r2.lt).below b4 (by omega)
  · exact r3.below b4 r3.lt
  · exact Below.andThen (Below.andThen (Below.andThen b1 b2 (Nat.le_refl _)) b3 (Nat.le_refl _)) b4 (Nat.le_refl _)
theorem agg4 (F : List Int) (h : F.length = 4) : ∃ f0 f1 f2 f3, F = [f0, f1, f2, f3] := by
  match F, h with
  | [a, b, c, d], _ => exact ⟨a, b, c, d, rfl⟩
theorem getI (F : List Int) (i : Nat) (h : i < F.length) : (F.map encI)[i]? = some (.int .i64 (F.getD i 0)) := by
  rw [List.getElem?_map, List.getElem?_eq_getElem h]; simp [encI, List.getD, h]
theorem Row.other {W : World} {g g' : Nat} {E : TypeId} {vs : List Value} (h : Row W g E vs) (i : Nat) (v : Value) (hne : g ≠ g') : Row (W.setCell ⟨g', i, none⟩ v) g E vs := by
  unfold Row; rw [Below.heap_setCell _ _ _ _ hne]; exact h
set_option maxRecDepth 100000 in
set_option maxHeartbeats 1000000 in
theorem after_s_0 (n p0 p1 p2 p3 f0 f1 f2 f3 : Int) (w : World) :
    Calls Try.prog 54 #[.agg #[.int .i64 n, .int .i64 p0, .int .i64 p1, .int .i64 p2, .int .i64 p3], .agg #[.int .i64 f0, .int .i64 f1, .int .i64 f2, .int .i64 f3], .agg #[.int .i64 (-1), .int .i64 0]] w fun e w' => e = .returned (aggI (afterF [p0, p1, p2, p3] [f0, f1, f2, f3] (-1) 0)) ∧ Below w.heap.size w w' := by
  obtain ⟨V, hV, rJ, rF, rS, rR, hb, hsz⟩ := after_start w [.int .i64 n, .int .i64 p0, .int .i64 p1, .int .i64 p2, .int .i64 p3] [.int .i64 f0, .int .i64 f1, .int .i64 f2, .int .i64 f3] [.int .i64 (-1), .int .i64 0] [.int .i64 0, .int .i64 0, .int .i64 0, .int .i64 0]
  have FIN : Hid (aggI (afterF [p0, p1, p2, p3] [f0, f1, f2, f3] (-1) 0) = .agg #[.int .i64 p0, .int .i64 f1, .int .i64 f2, .int .i64 f3]) := Lib.hid (by simp [afterF, aggI, encI])
  rw [FIN.out]
  have HV := Lib.hid hV
  have RJ := Lib.hid rJ
  have RF := Lib.hid rF
  have RR := Lib.hid rR
  have B0 := Lib.hid hb
  have s0 := rS.cell 0
  have s1 := rS.cell 1
  simp only [List.getElem?_cons_zero, List.getElem?_cons_succ] at s0 s1
  have u0 := Kl.cell rS.lt s0
  have u1 := Kl.cell rS.lt s1
  clear hV rJ rF rS rR hb hsz s0 s1
  go_enter Try.func54, Try.ntmps54
  go_wp2_with fail
  rw [← HV.out]
  refine wp_region_below (by kernel_rfl) (by kernel_rfl) ?_
  repeat (go_big_quiet_step (fail))
  refine wpQuiet_nil ?_
  rintro _ ⟨wq, rfl⟩
  have BQ := Lib.hid wq.h
  generalize wq.W = w2 at *
  clear u0 u1
  have rJ := RJ.out.below BQ.out RJ.out.lt
  have rF := RF.out.below BQ.out RF.out.lt
  have rR := RR.out.below BQ.out RR.out.lt
  have RF2 := Lib.hid rF
  have RR2 := Lib.hid rR
  have j1 := rJ.cell 1
  have j2 := rJ.cell 2
  have j3 := rJ.cell 3
  have j4 := rJ.cell 4
  have c0 := rF.cell 0
  have c1 := rF.cell 1
  have c2 := rF.cell 2
  have c3 := rF.cell 3
  have z0 := rR.cell 0
  have z1 := rR.cell 1
  have z2 := rR.cell 2
  have z3 := rR.cell 3
  have k0 := frozen_of_row _ (w.heap.size + 1) 0 _ _ rF
  have k1 := frozen_of_row _ (w.heap.size + 1) 1 _ _ rF
  have k2 := frozen_of_row _ (w.heap.size + 1) 2 _ _ rF
  have k3 := frozen_of_row _ (w.heap.size + 1) 3 _ _ rF
  have l0 := frozen_of_row _ (w.heap.size + 1 + 1 + 1) 0 _ _ rR
  have l1 := frozen_of_row _ (w.heap.size + 1 + 1 + 1) 1 _ _ rR
  have l2 := frozen_of_row _ (w.heap.size + 1 + 1 + 1) 2 _ _ rR
  have l3 := frozen_of_row _ (w.heap.size + 1 + 1 + 1) 3 _ _ rR
  simp only [List.getElem?_cons_zero, List.getElem?_cons_succ] at j1 j2 j3 j4 c0 c1 c2 c3 z0 z1 z2 z3
  clear rJ rF rR
  go_wp2_with fail
  have hr : Row (((((w2.setCell ⟨w.heap.size + 1, 0, none⟩ (.int .i64 p0)).setCell ⟨w.heap.size + 1 + 1 + 1, 0, none⟩ (.int .i64 p0)).setCell ⟨w.heap.size + 1 + 1 + 1, 1, none⟩ (.int .i64 f1)).setCell ⟨w.heap.size + 1 + 1 + 1, 2, none⟩ (.int .i64 f2)).setCell ⟨w.heap.size + 1 + 1 + 1, 3, none⟩ (.int .i64 f3)) (w.heap.size + 1 + 1 + 1) 77 [.int .i64 p0, .int .i64 f1, .int .i64 f2, .int .i64 f3] := by
    simpa using (((((RR2.out.other (0) (.int .i64 p0) (g' := w.heap.size + 1) (by omega)).set 0 (.int .i64 p0)).set 1 (.int .i64 f1)).set 2 (.int .i64 f2)).set 3 (.int .i64 f3))
  have v0 := hr.cell 0
  have v1 := hr.cell 1
  have v2 := hr.cell 2
  have v3 := hr.cell 3
  simp only [List.getElem?_cons_zero, List.getElem?_cons_succ] at v0 v1 v2 v3
  refine bodyPost_ret (v := .agg #[.int .i64 p0, .int .i64 f1, .int .i64 f2, .int .i64 f3]) (by simp [results, Try.results54, go_sem, v0, v1, v2, v3]) rfl ⟨rfl, ?_⟩
  exact ((((((Below.andThen B0.out BQ.out (Nat.le_refl _)).setCell (p := ⟨w.heap.size + 1, 0, none⟩) (by dsimp only; omega) (.int .i64 p0)).setCell (p := ⟨w.heap.size + 1 + 1 + 1, 0, none⟩) (by dsimp only; omega) (.int .i64 p0)).setCell (p := ⟨w.heap.size + 1 + 1 + 1, 1, none⟩) (by dsimp only; omega) (.int .i64 f1)).setCell (p := ⟨w.heap.size + 1 + 1 + 1, 2, none⟩) (by dsimp only; omega) (.int .i64 f2)).setCell (p := ⟨w.heap.size + 1 + 1 + 1, 3, none⟩) (by dsimp only; omega) (.int .i64 f3))
set_option maxRecDepth 100000 in
set_option maxHeartbeats 1000000 in
theorem after_s_1 (n p0 p1 p2 p3 f0 f1 f2 f3 : Int) (w : World) :
    Calls Try.prog 54 #[.agg #[.int .i64 n, .int .i64 p0, .int .i64 p1, .int .i64 p2, .int .i64 p3], .agg #[.int .i64 f0, .int .i64 f1, .int .i64 f2, .int .i64 f3], .agg #[.int .i64 (-1), .int .i64 1]] w fun e w' => e = .returned (aggI (afterF [p0, p1, p2, p3] [f0, f1, f2, f3] (-1) 1)) ∧ Below w.heap.size w w' := by
  obtain ⟨V, hV, rJ, rF, rS, rR, hb, hsz⟩ := after_start w [.int .i64 n, .int .i64 p0, .int .i64 p1, .int .i64 p2, .int .i64 p3] [.int .i64 f0, .int .i64 f1, .int .i64 f2, .int .i64 f3] [.int .i64 (-1), .int .i64 1] [.int .i64 0, .int .i64 0, .int .i64 0, .int .i64 0]
  have FIN : Hid (aggI (afterF [p0, p1, p2, p3] [f0, f1, f2, f3] (-1) 1) = .agg #[.int .i64 f0, .int .i64 p1, .int .i64 f2, .int .i64 f3]) := Lib.hid (by simp [afterF, aggI, encI])
  rw [FIN.out]
  have HV := Lib.hid hV
  have RJ := Lib.hid rJ
  have RF := Lib.hid rF
  have RR := Lib.hid rR
  have B0 := Lib.hid hb
  have s0 := rS.cell 0
  have s1 := rS.cell 1
  simp only [List.getElem?_cons_zero, List.getElem?_cons_succ] at s0 s1
  have u0 := Kl.cell rS.lt s0
  have u1 := Kl.cell rS.lt s1
  clear hV rJ rF rS rR hb hsz s0 s1
  go_enter Try.func54, Try.ntmps54
  go_wp2_with fail
  rw [← HV.out]
  refine wp_region_below (by kernel_rfl) (by kernel_rfl) ?_
  repeat (go_big_quiet_step (fail))
  refine wpQuiet_nil ?_
  rintro _ ⟨wq, rfl⟩
  have BQ := Lib.hid wq.h
  generalize wq.W = w2 at *
  clear u0 u1
  have rJ := RJ.out.below BQ.out RJ.out.lt
  have rF := RF.out.below BQ.out RF.out.lt
  have rR := RR.out.below BQ.out RR.out.lt
  have RF2 := Lib.hid rF
  have RR2 := Lib.hid rR
  have j1 := rJ.cell 1
  have j2 := rJ.cell 2
  have j3 := rJ.cell 3
  have j4 := rJ.cell 4
  have c0 := rF.cell 0
  have c1 := rF.cell 1
  have c2 := rF.cell 2
  have c3 := rF.cell 3
  have z0 := rR.cell 0
  have z1 := rR.cell 1
  have z2 := rR.cell 2
  have z3 := rR.cell 3
  have k0 := frozen_of_row _ (w.heap.size + 1) 0 _ _ rF
  have k1 := frozen_of_row _ (w.heap.size + 1) 1 _ _ rF
  have k2 := frozen_of_row _ (w.heap.size + 1) 2 _ _ rF
  have k3 := frozen_of_row _ (w.heap.size + 1) 3 _ _ rF
  have l0 := frozen_of_row _ (w.heap.size + 1 + 1 + 1) 0 _ _ rR
  have l1 := frozen_of_row _ (w.heap.size + 1 + 1 + 1) 1 _ _ rR
  have l2 := frozen_of_row _ (w.heap.size + 1 + 1 + 1) 2 _ _ rR
  have l3 := frozen_of_row _ (w.heap.size + 1 + 1 + 1) 3 _ _ rR
  simp only [List.getElem?_cons_zero, List.getElem?_cons_succ] at j1 j2 j3 j4 c0 c1 c2 c3 z0 z1 z2 z3
  clear rJ rF rR
  go_wp2_with fail
  have hr : Row (((((w2.setCell ⟨w.heap.size + 1, 1, none⟩ (.int .i64 p1)).setCell ⟨w.heap.size + 1 + 1 + 1, 0, none⟩ (.int .i64 f0)).setCell ⟨w.heap.size + 1 + 1 + 1, 1, none⟩ (.int .i64 p1)).setCell ⟨w.heap.size + 1 + 1 + 1, 2, none⟩ (.int .i64 f2)).setCell ⟨w.heap.size + 1 + 1 + 1, 3, none⟩ (.int .i64 f3)) (w.heap.size + 1 + 1 + 1) 77 [.int .i64 f0, .int .i64 p1, .int .i64 f2, .int .i64 f3] := by
    simpa using (((((RR2.out.other (1) (.int .i64 p1) (g' := w.heap.size + 1) (by omega)).set 0 (.int .i64 f0)).set 1 (.int .i64 p1)).set 2 (.int .i64 f2)).set 3 (.int .i64 f3))
  have v0 := hr.cell 0
  have v1 := hr.cell 1
  have v2 := hr.cell 2
  have v3 := hr.cell 3
  simp only [List.getElem?_cons_zero, List.getElem?_cons_succ] at v0 v1 v2 v3
  refine bodyPost_ret (v := .agg #[.int .i64 f0, .int .i64 p1, .int .i64 f2, .int .i64 f3]) (by simp [results, Try.results54, go_sem, v0, v1, v2, v3]) rfl ⟨rfl, ?_⟩
  exact ((((((Below.andThen B0.out BQ.out (Nat.le_refl _)).setCell (p := ⟨w.heap.size + 1, 1, none⟩) (by dsimp only; omega) (.int .i64 p1)).setCell (p := ⟨w.heap.size + 1 + 1 + 1, 0, none⟩) (by dsimp only; omega) (.int .i64 f0)).setCell (p := ⟨w.heap.size + 1 + 1 + 1, 1, none⟩) (by dsimp only; omega) (.int .i64 p1)).setCell (p := ⟨w.heap.size + 1 + 1 + 1, 2, none⟩) (by dsimp only; omega) (.int .i64 f2)).setCell (p := ⟨w.heap.size + 1 + 1 + 1, 3, none⟩) (by dsimp only; omega) (.int .i64 f3))
set_option maxRecDepth 100000 in
set_option maxHeartbeats 1000000 in
theorem after_s_2 (n p0 p1 p2 p3 f0 f1 f2 f3 : Int) (w : World) :
    Calls Try.prog 54 #[.agg #[.int .i64 n, .int .i64 p0, .int .i64 p1, .int .i64 p2, .int .i64 p3], .agg #[.int .i64 f0, .int .i64 f1, .int .i64 f2, .int .i64 f3], .agg #[.int .i64 (-1), .int .i64 2]] w fun e w' => e = .returned (aggI (afterF [p0, p1, p2, p3] [f0, f1, f2, f3] (-1) 2)) ∧ Below w.heap.size w w' := by
  obtain ⟨V, hV, rJ, rF, rS, rR, hb, hsz⟩ := after_start w [.int .i64 n, .int .i64 p0, .int .i64 p1, .int .i64 p2, .int .i64 p3] [.int .i64 f0, .int .i64 f1, .int .i64 f2, .int .i64 f3] [.int .i64 (-1), .int .i64 2] [.int .i64 0, .int .i64 0, .int .i64 0, .int .i64 0]
  have FIN : Hid (aggI (afterF [p0, p1, p2, p3] [f0, f1, f2, f3] (-1) 2) = .agg #[.int .i64 f0, .int .i64 f1, .int .i64 p2, .int .i64 f3]) := Lib.hid (by simp [afterF, aggI, encI])
  rw [FIN.out]
  have HV := Lib.hid hV
  have RJ := Lib.hid rJ
  have RF := Lib.hid rF
  have RR := Lib.hid rR
  have B0 := Lib.hid hb
  have s0 := rS.cell 0
  have s1 := rS.cell 1
  simp only [List.getElem?_cons_zero, List.getElem?_cons_succ] at s0 s1
  have u0 := Kl.cell rS.lt s0
  have u1 := Kl.cell rS.lt s1
  clear hV rJ rF rS rR hb hsz s0 s1
  go_enter Try.func54, Try.ntmps54
  go_wp2_with fail
  rw [← HV.out]
  refine wp_region_below (by kernel_rfl) (by kernel_rfl) ?_
  repeat (go_big_quiet_step (fail))
  refine wpQuiet_nil ?_
  rintro _ ⟨wq, rfl⟩
  have BQ := Lib.hid wq.h
  generalize wq.W = w2 at *
  clear u0 u1
  have rJ := RJ.out.below BQ.out RJ.out.lt
  have rF := RF.out.below BQ.out RF.out.lt
  have rR := RR.out.below BQ.out RR.out.lt
  have RF2 := Lib.hid rF
  have RR2 := Lib.hid rR
  have j1 := rJ.cell 1
  have j2 := rJ.cell 2
  have j3 := rJ.cell 3
  have j4 := rJ.cell 4
  have c0 := rF.cell 0
  have c1 := rF.cell 1
  have c2 := rF.cell 2
  have c3 := rF.cell 3
  have z0 := rR.cell 0
  have z1 := rR.cell 1
  have z2 := rR.cell 2
  have z3 := rR.cell 3
  have k0 := frozen_of_row _ (w.heap.size + 1) 0 _ _ rF
  have k1 := frozen_of_row _ (w.heap.size + 1) 1 _ _ rF
  have k2 := frozen_of_row _ (w.heap.size + 1) 2 _ _ rF
  have k3 := frozen_of_row _ (w.heap.size + 1) 3 _ _ rF
  have l0 := frozen_of_row _ (w.heap.size + 1 + 1 + 1) 0 _ _ rR
  have l1 := frozen_of_row _ (w.heap.size + 1 + 1 + 1) 1 _ _ rR
  have l2 := frozen_of_row _ (w.heap.size + 1 + 1 + 1) 2 _ _ rR
  have l3 := frozen_of_row _ (w.heap.size + 1 + 1 + 1) 3 _ _ rR
  simp only [List.getElem?_cons_zero, List.getElem?_cons_succ] at j1 j2 j3 j4 c0 c1 c2 c3 z0 z1 z2 z3
  clear rJ rF rR
  go_wp2_with fail
  have hr : Row (((((w2.setCell ⟨w.heap.size + 1, 2, none⟩ (.int .i64 p2)).setCell ⟨w.heap.size + 1 + 1 + 1, 0, none⟩ (.int .i64 f0)).setCell ⟨w.heap.size + 1 + 1 + 1, 1, none⟩ (.int .i64 f1)).setCell ⟨w.heap.size + 1 + 1 + 1, 2, none⟩ (.int .i64 p2)).setCell ⟨w.heap.size + 1 + 1 + 1, 3, none⟩ (.int .i64 f3)) (w.heap.size + 1 + 1 + 1) 77 [.int .i64 f0, .int .i64 f1, .int .i64 p2, .int .i64 f3] := by
    simpa using (((((RR2.out.other (2) (.int .i64 p2) (g' := w.heap.size + 1) (by omega)).set 0 (.int .i64 f0)).set 1 (.int .i64 f1)).set 2 (.int .i64 p2)).set 3 (.int .i64 f3))
  have v0 := hr.cell 0
  have v1 := hr.cell 1
  have v2 := hr.cell 2
  have v3 := hr.cell 3
  simp only [List.getElem?_cons_zero, List.getElem?_cons_succ] at v0 v1 v2 v3
  refine bodyPost_ret (v := .agg #[.int .i64 f0, .int .i64 f1, .int .i64 p2, .int .i64 f3]) (by simp [results, Try.results54, go_sem, v0, v1, v2, v3]) rfl ⟨rfl, ?_⟩
  exact ((((((Below.andThen B0.out BQ.out (Nat.le_refl _)).setCell (p := ⟨w.heap.size + 1, 2, none⟩) (by dsimp only; omega) (.int .i64 p2)).setCell (p := ⟨w.heap.size + 1 + 1 + 1, 0, none⟩) (by dsimp only; omega) (.int .i64 f0)).setCell (p := ⟨w.heap.size + 1 + 1 + 1, 1, none⟩) (by dsimp only; omega) (.int .i64 f1)).setCell (p := ⟨w.heap.size + 1 + 1 + 1, 2, none⟩) (by dsimp only; omega) (.int .i64 p2)).setCell (p := ⟨w.heap.size + 1 + 1 + 1, 3, none⟩) (by dsimp only; omega) (.int .i64 f3))
set_option maxRecDepth 100000 in
set_option maxHeartbeats 1000000 in
theorem after_s_3 (n p0 p1 p2 p3 f0 f1 f2 f3 : Int) (w : World) :
    Calls Try.prog 54 #[.agg #[.int .i64 n, .int .i64 p0, .int .i64 p1, .int .i64 p2, .int .i64 p3], .agg #[.int .i64 f0, .int .i64 f1, .int .i64 f2, .int .i64 f3], .agg #[.int .i64 (-1), .int .i64 3]] w fun e w' => e = .returned (aggI (afterF [p0, p1, p2, p3] [f0, f1, f2, f3] (-1) 3)) ∧ Below w.heap.size w w' := by
  obtain ⟨V, hV, rJ, rF, rS, rR, hb, hsz⟩ := after_start w [.int .i64 n, .int .i64 p0, .int .i64 p1, .int .i64 p2, .int .i64 p3] [.int .i64 f0, .int .i64 f1, .int .i64 f2, .int .i64 f3] [.int .i64 (-1), .int .i64 3] [.int .i64 0, .int .i64 0, .int .i64 0, .int .i64 0]
  have FIN : Hid (aggI (afterF [p0, p1, p2, p3] [f0, f1, f2, f3] (-1) 3) = .agg #[.int .i64 f0, .int .i64 f1, .int .i64 f2, .int .i64 p3]) := Lib.hid (by simp [afterF, aggI, encI])
  rw [FIN.out]
  have HV := Lib.hid hV
  have RJ := Lib.hid rJ
  have RF := Lib.hid rF
  have RR := Lib.hid rR
  have B0 := Lib.hid hb
  have s0 := rS.cell 0
  have s1 := rS.cell 1
  simp only [List.getElem?_cons_zero, List.getElem?_cons_succ] at s0 s1
  have u0 := Kl.cell rS.lt s0
  have u1 := Kl.cell rS.lt s1
  clear hV rJ rF rS rR hb hsz s0 s1
  go_enter Try.func54, Try.ntmps54
  go_wp2_with fail
  rw [← HV.out]
  refine wp_region_below (by kernel_rfl) (by kernel_rfl) ?_
  repeat (go_big_quiet_step (fail))
  refine wpQuiet_nil ?_
  rintro _ ⟨wq, rfl⟩
  have BQ := Lib.hid wq.h
  generalize wq.W = w2 at *
  clear u0 u1
  have rJ := RJ.out.below BQ.out RJ.out.lt
  have rF := RF.out.below BQ.out RF.out.lt
  have rR := RR.out.below BQ.out RR.out.lt
  have RF2 := Lib.hid rF
  have RR2 := Lib.hid rR
  have j1 := rJ.cell 1
  have j2 := rJ.cell 2
  have j3 := rJ.cell 3
  have j4 := rJ.cell 4
  have c0 := rF.cell 0
  have c1 := rF.cell 1
  have c2 := rF.cell 2
  have c3 := rF.cell 3
  have z0 := rR.cell 0
  have z1 := rR.cell 1
  have z2 := rR.cell 2
  have z3 := rR.cell 3
  have k0 := frozen_of_row _ (w.heap.size + 1) 0 _ _ rF
  have k1 := frozen_of_row _ (w.heap.size + 1) 1 _ _ rF
  have k2 := frozen_of_row _ (w.heap.size + 1) 2 _ _ rF
  have k3 := frozen_of_row _ (w.heap.size + 1) 3 _ _ rF
  have l0 := frozen_of_row _ (w.heap.size + 1 + 1 + 1) 0 _ _ rR
  have l1 := frozen_of_row _ (w.heap.size + 1 + 1 + 1) 1 _ _ rR
  have l2 := frozen_of_row _ (w.heap.size + 1 + 1 + 1) 2 _ _ rR
  have l3 := frozen_of_row _ (w.heap.size + 1 + 1 + 1) 3 _ _ rR
  simp only [List.getElem?_cons_zero, List.getElem?_cons_succ] at j1 j2 j3 j4 c0 c1 c2 c3 z0 z1 z2 z3
  clear rJ rF rR
  go_wp2_with fail
  have hr : Row (((((w2.setCell ⟨w.heap.size + 1, 3, none⟩ (.int .i64 p3)).setCell ⟨w.heap.size + 1 + 1 + 1, 0, none⟩ (.int .i64 f0)).setCell ⟨w.heap.size + 1 + 1 + 1, 1, none⟩ (.int .i64 f1)).setCell ⟨w.heap.size + 1 + 1 + 1, 2, none⟩ (.int .i64 f2)).setCell ⟨w.heap.size + 1 + 1 + 1, 3, none⟩ (.int .i64 p3)) (w.heap.size + 1 + 1 + 1) 77 [.int .i64 f0, .int .i64 f1, .int .i64 f2, .int .i64 p3] := by
    simpa using (((((RR2.out.other (3) (.int .i64 p3) (g' := w.heap.size + 1) (by omega)).set 0 (.int .i64 f0)).set 1 (.int .i64 f1)).set 2 (.int .i64 f2)).set 3 (.int .i64 p3))
  have v0 := hr.cell 0
  have v1 := hr.cell 1
  have v2 := hr.cell 2
  have v3 := hr.cell 3
  simp only [List.getElem?_cons_zero, List.getElem?_cons_succ] at v0 v1 v2 v3
  refine bodyPost_ret (v := .agg #[.int .i64 f0, .int .i64 f1, .int .i64 f2, .int .i64 p3]) (by simp [results, Try.results54, go_sem, v0, v1, v2, v3]) rfl ⟨rfl, ?_⟩
  exact ((((((Below.andThen B0.out BQ.out (Nat.le_refl _)).setCell (p := ⟨w.heap.size + 1, 3, none⟩) (by dsimp only; omega) (.int .i64 p3)).setCell (p := ⟨w.heap.size + 1 + 1 + 1, 0, none⟩) (by dsimp only; omega) (.int .i64 f0)).setCell (p := ⟨w.heap.size + 1 + 1 + 1, 1, none⟩) (by dsimp only; omega) (.int .i64 f1)).setCell (p := ⟨w.heap.size + 1 + 1 + 1, 2, none⟩) (by dsimp only; omega) (.int .i64 f2)).setCell (p := ⟨w.heap.size + 1 + 1 + 1, 3, none⟩) (by dsimp only; omega) (.int .i64 p3))
set_option maxRecDepth 100000 in
set_option maxHeartbeats 1000000 in
theorem after_0_s (n p0 p1 p2 p3 f0 f1 f2 f3 : Int) (w : World) :
    Calls Try.prog 54 #[.agg #[.int .i64 n, .int .i64 p0, .int .i64 p1, .int .i64 p2, .int .i64 p3], .agg #[.int .i64 f0, .int .i64 f1, .int .i64 f2, .int .i64 f3], .agg #[.int .i64 0, .int .i64 (-1)]] w fun e w' => e = .returned (aggI (afterF [p0, p1, p2, p3] [f0, f1, f2, f3] 0 (-1))) ∧ Below w.heap.size w w' := by
  obtain ⟨V, hV, rJ, rF, rS, rR, hb, hsz⟩ := after_start w [.int .i64 n, .int .i64 p0, .int .i64 p1, .int .i64 p2, .int .i64 p3] [.int .i64 f0, .int .i64 f1, .int .i64 f2, .int .i64 f3] [.int .i64 0, .int .i64 (-1)] [.int .i64 0, .int .i64 0, .int .i64 0, .int .i64 0]
  have FIN : Hid (aggI (afterF [p0, p1, p2, p3] [f0, f1, f2, f3] 0 (-1)) = .agg #[.int .i64 0, .int .i64 f1, .int .i64 f2, .int .i64 f3]) := Lib.hid (by simp [afterF, aggI, encI])
  rw [FIN.out]
  have HV := Lib.hid hV
  have RJ := Lib.hid rJ
  have RF := Lib.hid rF
  have RR := Lib.hid rR
  have B0 := Lib.hid hb
  have s0 := rS.cell 0
  have s1 := rS.cell 1
  simp only [List.getElem?_cons_zero, List.getElem?_cons_succ] at s0 s1
  have u0 := Kl.cell rS.lt s0
  have u1 := Kl.cell rS.lt s1
  clear hV rJ rF rS rR hb hsz s0 s1
  go_enter Try.func54, Try.ntmps54
  go_wp2_with fail
  rw [← HV.out]
  refine wp_region_below (by kernel_rfl) (by kernel_rfl) ?_
  repeat (go_big_quiet_step (fail))
  refine wpQuiet_nil ?_
  rintro _ ⟨wq, rfl⟩
  have BQ := Lib.hid wq.h
  generalize wq.W = w2 at *
  clear u0 u1
  have rJ := RJ.out.below BQ.out RJ.out.lt
  have rF := RF.out.below BQ.out RF.out.lt
  have rR := RR.out.below BQ.out RR.out.lt
  have RF2 := Lib.hid rF
  have RR2 := Lib.hid rR
  have j1 := rJ.cell 1
  have j2 := rJ.cell 2
  have j3 := rJ.cell 3
  have j4 := rJ.cell 4
  have c0 := rF.cell 0
  have c1 := rF.cell 1
  have c2 := rF.cell 2
  have c3 := rF.cell 3
  have z0 := rR.cell 0
  have z1 := rR.cell 1
  have z2 := rR.cell 2
  have z3 := rR.cell 3
  have k0 := frozen_of_row _ (w.heap.size + 1) 0 _ _ rF
  have k1 := frozen_of_row _ (w.heap.size + 1) 1 _ _ rF
  have k2 := frozen_of_row _ (w.heap.size + 1) 2 _ _ rF
  have k3 := frozen_of_row _ (w.heap.size + 1) 3 _ _ rF
  have l0 := frozen_of_row _ (w.heap.size + 1 + 1 + 1) 0 _ _ rR
  have l1 := frozen_of_row _ (w.heap.size + 1 + 1 + 1) 1 _ _ rR
  have l2 := frozen_of_row _ (w.heap.size + 1 + 1 + 1) 2 _ _ rR
  have l3 := frozen_of_row _ (w.heap.size + 1 + 1 + 1) 3 _ _ rR
  simp only [List.getElem?_cons_zero, List.getElem?_cons_succ] at j1 j2 j3 j4 c0 c1 c2 c3 z0 z1 z2 z3
  clear rJ rF rR
  go_wp2_with fail
  have hr : Row (((((w2.setCell ⟨w.heap.size + 1, 0, none⟩ (.int .i64 0)).setCell ⟨w.heap.size + 1 + 1 + 1, 0, none⟩ (.int .i64 0)).setCell ⟨w.heap.size + 1 + 1 + 1, 1, none⟩ (.int .i64 f1)).setCell ⟨w.heap.size + 1 + 1 + 1, 2, none⟩ (.int .i64 f2)).setCell ⟨w.heap.size + 1 + 1 + 1, 3, none⟩ (.int .i64 f3)) (w.heap.size + 1 + 1 + 1) 77 [.int .i64 0, .int .i64 f1, .int .i64 f2, .int .i64 f3] := by
    simpa using (((((RR2.out.other (0) (.int .i64 0) (g' := w.heap.size + 1) (by omega)).set 0 (.int .i64 0)).set 1 (.int .i64 f1)).set 2 (.int .i64 f2)).set 3 (.int .i64 f3))
  have v0 := hr.cell 0
  have v1 := hr.cell 1
  have v2 := hr.cell 2
  have v3 := hr.cell 3
  simp only [List.getElem?_cons_zero, List.getElem?_cons_succ] at v0 v1 v2 v3
  refine bodyPost_ret (v := .agg #[.int .i64 0, .int .i64 f1, .int .i64 f2, .int .i64 f3]) (by simp [results, Try.results54, go_sem, v0, v1, v2, v3]) rfl ⟨rfl, ?_⟩
  exact ((((((Below.andThen B0.out BQ.out (Nat.le_refl _)).setCell (p := ⟨w.heap.size + 1, 0, none⟩) (by dsimp only; omega) (.int .i64 0)).setCell (p := ⟨w.heap.size + 1 + 1 + 1, 0, none⟩) (by dsimp only; omega) (.int .i64 0)).setCell (p := ⟨w.heap.size + 1 + 1 + 1, 1, none⟩) (by dsimp only; omega) (.int .i64 f1)).setCell (p := ⟨w.heap.size + 1 + 1 + 1, 2, none⟩) (by dsimp only; omega) (.int .i64 f2)).setCell (p := ⟨w.heap.size + 1 + 1 + 1, 3, none⟩) (by dsimp only; omega) (.int .i64 f3))
set_option maxRecDepth 100000 in
set_option maxHeartbeats 1000000 in
theorem after_0_1l (n p0 p1 p2 p3 f0 f1 f2 f3 : Int) (hf : 0 ≤ f0 ∧ f0 ≤ 12) (ht : 0 ≤ f1 ∧ f1 ≤ p1) (hp : p1 ≤ 12) (hmin : f0 ≤ p1 - f1) (w : World) :
    Calls Try.prog 54 #[.agg #[.int .i64 n, .int .i64 p0, .int .i64 p1, .int .i64 p2, .int .i64 p3], .agg #[.int .i64 f0, .int .i64 f1, .int .i64 f2, .int .i64 f3], .agg #[.int .i64 0, .int .i64 1]] w fun e w' => e = .returned (aggI (afterF [p0, p1, p2, p3] [f0, f1, f2, f3] 0 1)) ∧ Below w.heap.size w w' := by
  obtain ⟨V, hV, rJ, rF, rS, rR, hb, hsz⟩ := after_start w [.int .i64 n, .int .i64 p0, .int .i64 p1, .int .i64 p2, .int .i64 p3] [.int .i64 f0, .int .i64 f1, .int .i64 f2, .int .i64 f3] [.int .i64 0, .int .i64 1] [.int .i64 0, .int .i64 0, .int .i64 0, .int .i64 0]
  have e1 : IntKind.i64.wrap (p1 - f1) = p1 - f1 := i64_of _ (by omega) (by omega)
  have e2 : IntKind.i64.wrap (f0 - f0) = f0 - f0 := i64_of _ (by omega) (by omega)
  have e3 : IntKind.i64.wrap (f1 + f0) = f1 + f0 := i64_of _ (by omega) (by omega)
  have hm : min f0 (p1 - f1) = f0 := by omega
  have FIN : Hid (aggI (afterF [p0, p1, p2, p3] [f0, f1, f2, f3] 0 1) = .agg #[.int .i64 0, .int .i64 (f1 + f0), .int .i64 f2, .int .i64 f3]) := Lib.hid (by simp [afterF, aggI, encI, hm])
  rw [FIN.out]
  have HV := Lib.hid hV
  have RJ := Lib.hid rJ
  have RF := Lib.hid rF
  have RR := Lib.hid rR
  have B0 := Lib.hid hb
  have s0 := rS.cell 0
  have s1 := rS.cell 1
  simp only [List.getElem?_cons_zero, List.getElem?_cons_succ] at s0 s1
  have u0 := Kl.cell rS.lt s0
  have u1 := Kl.cell rS.lt s1
  clear hV rJ rF rS rR hb hsz s0 s1
  go_enter Try.func54, Try.ntmps54
  go_wp2_with fail
  rw [← HV.out]
  refine wp_region_below (by kernel_rfl) (by kernel_rfl) ?_
  repeat (go_big_quiet_step (fail))
  refine wpQuiet_nil ?_
  rintro _ ⟨wq, rfl⟩
  have BQ := Lib.hid wq.h
  generalize wq.W = w2 at *
  clear u0 u1
  have q1 := (RF.out.below BQ.out RF.out.lt).cell 0
  have q2 := (RF.out.below BQ.out RF.out.lt).cell 1
  have q3 := (RJ.out.below BQ.out RJ.out.lt).cell 2
  simp only [List.getElem?_cons_zero, List.getElem?_cons_succ] at q1 q2 q3
  have u0 := Kl.cell (RF.out.below BQ.out RF.out.lt).lt q1
  have u1 := Kl.cell (RF.out.below BQ.out RF.out.lt).lt q2
  have u2 := Kl.cell (RJ.out.below BQ.out RJ.out.lt).lt q3
  clear q1 q2 q3
  go_wp2_with fail
  refine wp_region_below (by kernel_rfl) (by kernel_rfl) ?_
  repeat (go_big_quiet_step (fail))
  refine wpQuiet_nil ?_
  rintro _ ⟨wq, rfl⟩
  have BQ := Lib.hid (Below.andThen BQ.out wq.h (by have := BQ.out.size; have := RR.out.lt; omega))
  generalize wq.W = w2 at *
  clear u0 u1 u2
  have rJ := RJ.out.below BQ.out RJ.out.lt
  have rF := RF.out.below BQ.out RF.out.lt
  have rR := RR.out.below BQ.out RR.out.lt
  have RF2 := Lib.hid rF
  have RR2 := Lib.hid rR
  have j1 := rJ.cell 1
  have j2 := rJ.cell 2
  have j3 := rJ.cell 3
  have j4 := rJ.cell 4
  have c0 := rF.cell 0
  have c1 := rF.cell 1
  have c2 := rF.cell 2
  have c3 := rF.cell 3
  have z0 := rR.cell 0
  have z1 := rR.cell 1
  have z2 := rR.cell 2
  have z3 := rR.cell 3
  have k0 := frozen_of_row _ (w.heap.size + 1) 0 _ _ rF
  have k1 := frozen_of_row _ (w.heap.size + 1) 1 _ _ rF
  have k2 := frozen_of_row _ (w.heap.size + 1) 2 _ _ rF
  have k3 := frozen_of_row _ (w.heap.size + 1) 3 _ _ rF
  have l0 := frozen_of_row _ (w.heap.size + 1 + 1 + 1) 0 _ _ rR
  have l1 := frozen_of_row _ (w.heap.size + 1 + 1 + 1) 1 _ _ rR
  have l2 := frozen_of_row _ (w.heap.size + 1 + 1 + 1) 2 _ _ rR
  have l3 := frozen_of_row _ (w.heap.size + 1 + 1 + 1) 3 _ _ rR
  simp only [List.getElem?_cons_zero, List.getElem?_cons_succ] at j1 j2 j3 j4 c0 c1 c2 c3 z0 z1 z2 z3
  clear rJ rF rR
  go_wp2_with fail
  all_goals first | (exfalso; omega) | skip
  have hr : Row ((((((w2.setCell ⟨w.heap.size + 1, 0, none⟩ (.int .i64 0)).setCell ⟨w.heap.size + 1, 1, none⟩ (.int .i64 (f1 + f0))).setCell ⟨w.heap.size + 1 + 1 + 1, 0, none⟩ (.int .i64 0)).setCell ⟨w.heap.size + 1 + 1 + 1, 1, none⟩ (.int .i64 (f1 + f0))).setCell ⟨w.heap.size + 1 + 1 + 1, 2, none⟩ (.int .i64 f2)).setCell ⟨w.heap.size + 1 + 1 + 1, 3, none⟩ (.int .i64 f3)) (w.heap.size + 1 + 1 + 1) 77 [.int .i64 0, .int .i64 (f1 + f0), .int .i64 f2, .int .i64 f3] := by
    simpa using ((((((RR2.out.other (0) (.int .i64 0) (g' := w.heap.size + 1) (by omega)).other (1) (.int .i64 (f1 + f0)) (g' := w.heap.size + 1) (by omega)).set 0 (.int .i64 0)).set 1 (.int .i64 (f1 + f0))).set 2 (.int .i64 f2)).set 3 (.int .i64 f3))
  have v0 := hr.cell 0
  have v1 := hr.cell 1
  have v2 := hr.cell 2
  have v3 := hr.cell 3
  simp only [List.getElem?_cons_zero, List.getElem?_cons_succ] at v0 v1 v2 v3
  refine bodyPost_ret (v := .agg #[.int .i64 0, .int .i64 (f1 + f0), .int .i64 f2, .int .i64 f3]) (by simp [results, Try.results54, go_sem, v0, v1, v2, v3]) rfl ⟨rfl, ?_⟩
  exact (((((((Below.andThen B0.out BQ.out (Nat.le_refl _)).setCell (p := ⟨w.heap.size + 1, 0, none⟩) (by dsimp only; omega) (.int .i64 0)).setCell (p := ⟨w.heap.size + 1, 1, none⟩) (by dsimp only; omega) (.int .i64 (f1 + f0))).setCell (p := ⟨w.heap.size + 1 + 1 + 1, 0, none⟩) (by dsimp only; omega) (.int .i64 0)).setCell (p := ⟨w.heap.size + 1 + 1 + 1, 1, none⟩) (by dsimp only; omega) (.int .i64 (f1 + f0))).setCell (p := ⟨w.heap.size + 1 + 1 + 1, 2, none⟩) (by dsimp only; omega) (.int .i64 f2)).setCell (p := ⟨w.heap.size + 1 + 1 + 1, 3, none⟩) (by dsimp only; omega) (.int .i64 f3))
set_option maxRecDepth 100000 in
set_option maxHeartbeats 1000000 in
theorem after_0_1h (n p0 p1 p2 p3 f0 f1 f2 f3 : Int) (hf : 0 ≤ f0 ∧ f0 ≤ 12) (ht : 0 ≤ f1 ∧ f1 ≤ p1) (hp : p1 ≤ 12) (hmin : p1 - f1 < f0) (w : World) :
    Calls Try.prog 54 #[.agg #[.int .i64 n, .int .i64 p0, .int .i64 p1, .int .i64 p2, .int .i64 p3], .agg #[.int .i64 f0, .int .i64 f1, .int .i64 f2, .int .i64 f3], .agg #[.int .i64 0, .int .i64 1]] w fun e w' => e = .returned (aggI (afterF [p0, p1, p2, p3] [f0, f1, f2, f3] 0 1)) ∧ Below w.heap.size w w' := by
  obtain ⟨V, hV, rJ, rF, rS, rR, hb, hsz⟩ := after_start w [.int .i64 n, .int .i64 p0, .int .i64 p1, .int .i64 p2, .int .i64 p3] [.int .i64 f0, .int .i64 f1, .int .i64 f2, .int .i64 f3] [.int .i64 0, .int .i64 1] [.int .i64 0, .int .i64 0, .int .i64 0, .int .i64 0]
  have e1 : IntKind.i64.wrap (p1 - f1) = p1 - f1 := i64_of _ (by omega) (by omega)
  have e2 : IntKind.i64.wrap (f0 - (p1 - f1)) = f0 - (p1 - f1) := i64_of _ (by omega) (by omega)
  have e3 : IntKind.i64.wrap (f1 + (p1 - f1)) = f1 + (p1 - f1) := i64_of _ (by omega) (by omega)
  have hm : min f0 (p1 - f1) = (p1 - f1) := by omega
  have FIN : Hid (aggI (afterF [p0, p1, p2, p3] [f0, f1, f2, f3] 0 1) = .agg #[.int .i64 (f0 - (p1 - f1)), .int .i64 (f1 + (p1 - f1)), .int .i64 f2, .int .i64 f3]) := Lib.hid (by simp [afterF, aggI, encI, hm])
  rw [FIN.out]
  have HV := Lib.hid hV
  have RJ := Lib.hid rJ
  have RF := Lib.hid rF
  have RR := Lib.hid rR
  have B0 := Lib.hid hb
  have s0 := rS.cell 0
  have s1 := rS.cell 1
  simp only [List.getElem?_cons_zero, List.getElem?_cons_succ] at s0 s1
  have u0 := Kl.cell rS.lt s0
  have u1 := Kl.cell rS.lt s1
  clear hV rJ rF rS rR hb hsz s0 s1
  go_enter Try.func54, Try.ntmps54
  go_wp2_with fail
  rw [← HV.out]
  refine wp_region_below (by kernel_rfl) (by kernel_rfl) ?_
  repeat (go_big_quiet_step (fail))
  refine wpQuiet_nil ?_
  rintro _ ⟨wq, rfl⟩
  have BQ := Lib.hid wq.h
  generalize wq.W = w2 at *
  clear u0 u1
  have q1 := (RF.out.below BQ.out RF.out.lt).cell 0
  have q2 := (RF.out.below BQ.out RF.out.lt).cell 1
  have q3 := (RJ.out.below BQ.out RJ.out.lt).cell 2
  simp only [List.getElem?_cons_zero, List.getElem?_cons_succ] at q1 q2 q3
  have u0 := Kl.cell (RF.out.below BQ.out RF.out.lt).lt q1
  have u1 := Kl.cell (RF.out.below BQ.out RF.out.lt).lt q2
  have u2 := Kl.cell (RJ.out.below BQ.out RJ.out.lt).lt q3
  clear q1 q2 q3
  go_wp2_with fail
  refine wp_region_below (by kernel_rfl) (by kernel_rfl) ?_
  repeat (go_big_quiet_step (fail))
  refine wpQuiet_nil ?_
  rintro _ ⟨wq, rfl⟩
  have BQ := Lib.hid (Below.andThen BQ.out wq.h (by have := BQ.out.size; have := RR.out.lt; omega))
  generalize wq.W = w2 at *
  clear u0 u1 u2
  have rJ := RJ.out.below BQ.out RJ.out.lt
  have rF := RF.out.below BQ.out RF.out.lt
  have rR := RR.out.below BQ.out RR.out.lt
  have RF2 := Lib.hid rF
  have RR2 := Lib.hid rR
  have j1 := rJ.cell 1
  have j2 := rJ.cell 2
  have j3 := rJ.cell 3
  have j4 := rJ.cell 4
  have c0 := rF.cell 0
  have c1 := rF.cell 1
  have c2 := rF.cell 2
  have c3 := rF.cell 3
  have z0 := rR.cell 0
  have z1 := rR.cell 1
  have z2 := rR.cell 2
  have z3 := rR.cell 3
  have k0 := frozen_of_row _ (w.heap.size + 1) 0 _ _ rF
  have k1 := frozen_of_row _ (w.heap.size + 1) 1 _ _ rF
  have k2 := frozen_of_row _ (w.heap.size + 1) 2 _ _ rF
  have k3 := frozen_of_row _ (w.heap.size + 1) 3 _ _ rF
  have l0 := frozen_of_row _ (w.heap.size + 1 + 1 + 1) 0 _ _ rR
  have l1 := frozen_of_row _ (w.heap.size + 1 + 1 + 1) 1 _ _ rR
  have l2 := frozen_of_row _ (w.heap.size + 1 + 1 + 1) 2 _ _ rR
  have l3 := frozen_of_row _ (w.heap.size + 1 + 1 + 1) 3 _ _ rR
  simp only [List.getElem?_cons_zero, List.getElem?_cons_succ] at j1 j2 j3 j4 c0 c1 c2 c3 z0 z1 z2 z3
  clear rJ rF rR
  go_wp2_with fail
  all_goals first | (exfalso; omega) | skip
  have hr : Row ((((((w2.setCell ⟨w.heap.size + 1, 0, none⟩ (.int .i64 (f0 - (p1 - f1)))).setCell ⟨w.heap.size + 1, 1, none⟩ (.int .i64 (f1 + (p1 - f1)))).setCell ⟨w.heap.size + 1 + 1 + 1, 0, none⟩ (.int .i64 (f0 - (p1 - f1)))).setCell ⟨w.heap.size + 1 + 1 + 1, 1, none⟩ (.int .i64 (f1 + (p1 - f1)))).setCell ⟨w.heap.size + 1 + 1 + 1, 2, none⟩ (.int .i64 f2)).setCell ⟨w.heap.size + 1 + 1 + 1, 3, none⟩ (.int .i64 f3)) (w.heap.size + 1 + 1 + 1) 77 [.int .i64 (f0 - (p1 - f1)), .int .i64 (f1 + (p1 - f1)), .int .i64 f2, .int .i64 f3] := by
    simpa using ((((((RR2.out.other (0) (.int .i64 (f0 - (p1 - f1))) (g' := w.heap.size + 1) (by omega)).other (1) (.int .i64 (f1 + (p1 - f1))) (g' := w.heap.size + 1) (by omega)).set 0 (.int .i64 (f0 - (p1 - f1)))).set 1 (.int .i64 (f1 + (p1 - f1)))).set 2 (.int .i64 f2)).set 3 (.int .i64 f3))
  have v0 := hr.cell 0
  have v1 := hr.cell 1
  have v2 := hr.cell 2
  have v3 := hr.cell 3
  simp only [List.getElem?_cons_zero, List.getElem?_cons_succ] at v0 v1 v2 v3
  refine bodyPost_ret (v := .agg #[.int .i64 (f0 - (p1 - f1)), .int .i64 (f1 + (p1 - f1)), .int .i64 f2, .int .i64 f3]) (by simp [results, Try.results54, go_sem, v0, v1, v2, v3]) rfl ⟨rfl, ?_⟩
  exact (((((((Below.andThen B0.out BQ.out (Nat.le_refl _)).setCell (p := ⟨w.heap.size + 1, 0, none⟩) (by dsimp only; omega) (.int .i64 (f0 - (p1 - f1)))).setCell (p := ⟨w.heap.size + 1, 1, none⟩) (by dsimp only; omega) (.int .i64 (f1 + (p1 - f1)))).setCell (p := ⟨w.heap.size + 1 + 1 + 1, 0, none⟩) (by dsimp only; omega) (.int .i64 (f0 - (p1 - f1)))).setCell (p := ⟨w.heap.size + 1 + 1 + 1, 1, none⟩) (by dsimp only; omega) (.int .i64 (f1 + (p1 - f1)))).setCell (p := ⟨w.heap.size + 1 + 1 + 1, 2, none⟩) (by dsimp only; omega) (.int .i64 f2)).setCell (p := ⟨w.heap.size + 1 + 1 + 1, 3, none⟩) (by dsimp only; omega) (.int .i64 f3))
set_option maxRecDepth 100000 in
set_option maxHeartbeats 1000000 in
theorem after_0_2l (n p0 p1 p2 p3 f0 f1 f2 f3 : Int) (hf : 0 ≤ f0 ∧ f0 ≤ 12) (ht : 0 ≤ f2 ∧ f2 ≤ p2) (hp : p2 ≤ 12) (hmin : f0 ≤ p2 - f2) (w : World) :
    Calls Try.prog 54 #[.agg #[.int .i64 n, .int .i64 p0, .int .i64 p1, .int .i64 p2, .int .i64 p3], .agg #[.int .i64 f0, .int .i64 f1, .int .i64 f2, .int .i64 f3], .agg #[.int .i64 0, .int .i64 2]] w fun e w' => e = .returned (aggI (afterF [p0, p1, p2, p3] [f0, f1, f2, f3] 0 2)) ∧ Below w.heap.size w w' := by
  obtain ⟨V, hV, rJ, rF, rS, rR, hb, hsz⟩ := after_start w [.int .i64 n, .int .i64 p0, .int .i64 p1, .int .i64 p2, .int .i64 p3] [.int .i64 f0, .int .i64 f1, .int .i64 f2, .int .i64 f3] [.int .i64 0, .int .i64 2] [.int .i64 0, .int .i64 0, .int .i64 0, .int .i64 0]
  have e1 : IntKind.i64.wrap (p2 - f2) = p2 - f2 := i64_of _ (by omega) (by omega)
  have e2 : IntKind.i64.wrap (f0 - f0) = f0 - f0 := i64_of _ (by omega) (by omega)
  have e3 : IntKind.i64.wrap (f2 + f0) = f2 + f0 := i64_of _ (by omega) (by omega)
  have hm : min f0 (p2 - f2) = f0 := by omega
  have FIN : Hid (aggI (afterF [p0, p1, p2, p3] [f0, f1, f2, f3] 0 2) = .agg #[.int .i64 0, .int .i64 f1, .int .i64 (f2 + f0), .int .i64 f3]) := Lib.hid (by simp [afterF, aggI, encI, hm])
  rw [FIN.out]
  have HV := Lib.hid hV
  have RJ := Lib.hid rJ
  have RF := Lib.hid rF
  have RR := Lib.hid rR
  have B0 := Lib.hid hb
  have s0 := rS.cell 0
  have s1 := rS.cell 1
  simp only [List.getElem?_cons_zero, List.getElem?_cons_succ] at s0 s1
  have u0 := Kl.cell rS.lt s0
  have u1 := Kl.cell rS.lt s1
  clear hV rJ rF rS rR hb hsz s0 s1
  go_enter Try.func54, Try.ntmps54
  go_wp2_with fail
  rw [← HV.out]
  refine wp_region_below (by kernel_rfl) (by kernel_rfl) ?_
  repeat (go_big_quiet_step (fail))
  refine wpQuiet_nil ?_
  rintro _ ⟨wq, rfl⟩
  have BQ := Lib.hid wq.h
  generalize wq.W = w2 at *
  clear u0 u1
  have q1 := (RF.out.below BQ.out RF.out.lt).cell 0
  have q2 := (RF.out.below BQ.out RF.out.lt).cell 2
  have q3 := (RJ.out.below BQ.out RJ.out.lt).cell 3
  simp only [List.getElem?_cons_zero, List.getElem?_cons_succ] at q1 q2 q3
  have u0 := Kl.cell (RF.out.below BQ.out RF.out.lt).lt q1
  have u1 := Kl.cell (RF.out.below BQ.out RF.out.lt).lt q2
  have u2 := Kl.cell (RJ.out.below BQ.out RJ.out.lt).lt q3
  clear q1 q2 q3
  go_wp2_with fail
  refine wp_region_below (by kernel_rfl) (by kernel_rfl) ?_
  repeat (go_big_quiet_step (fail))
  refine wpQuiet_nil ?_
  rintro _ ⟨wq, rfl⟩
  have BQ := Lib.hid (Below.andThen BQ.out wq.h (by have := BQ.out.size; have := RR.out.lt; omega))
  generalize wq.W = w2 at *
  clear u0 u1 u2
  have rJ := RJ.out.below BQ.out RJ.out.lt
  have rF := RF.out.below BQ.out RF.out.lt
  have rR := RR.out.below BQ.out RR.out.lt
  have RF2 := Lib.hid rF
  have RR2 := Lib.hid rR
  have j1 := rJ.cell 1
  have j2 := rJ.cell 2
  have j3 := rJ.cell 3
  have j4 := rJ.cell 4
  have c0 := rF.cell 0
  have c1 := rF.cell 1
  have c2 := rF.cell 2
  have c3 := rF.cell 3
  have z0 := rR.cell 0
  have z1 := rR.cell 1
  have z2 := rR.cell 2
  have z3 := rR.cell 3
  have k0 := frozen_of_row _ (w.heap.size + 1) 0 _ _ rF
  have k1 := frozen_of_row _ (w.heap.size + 1) 1 _ _ rF
  have k2 := frozen_of_row _ (w.heap.size + 1) 2 _ _ rF
  have k3 := frozen_of_row _ (w.heap.size + 1) 3 _ _ rF
  have l0 := frozen_of_row _ (w.heap.size + 1 + 1 + 1) 0 _ _ rR
  have l1 := frozen_of_row _ (w.heap.size + 1 + 1 + 1) 1 _ _ rR
  have l2 := frozen_of_row _ (w.heap.size + 1 + 1 + 1) 2 _ _ rR
  have l3 := frozen_of_row _ (w.heap.size + 1 + 1 + 1) 3 _ _ rR
  simp only [List.getElem?_cons_zero, List.getElem?_cons_succ] at j1 j2 j3 j4 c0 c1 c2 c3 z0 z1 z2 z3
  clear rJ rF rR
  go_wp2_with fail
  all_goals first | (exfalso; omega) | skip
  have hr : Row ((((((w2.setCell ⟨w.heap.size + 1, 0, none⟩ (.int .i64 0)).setCell ⟨w.heap.size + 1, 2, none⟩ (.int .i64 (f2 + f0))).setCell ⟨w.heap.size + 1 + 1 + 1, 0, none⟩ (.int .i64 0)).setCell ⟨w.heap.size + 1 + 1 + 1, 1, none⟩ (.int .i64 f1)).setCell ⟨w.heap.size + 1 + 1 + 1, 2, none⟩ (.int .i64 (f2 + f0))).setCell ⟨w.heap.size + 1 + 1 + 1, 3, none⟩ (.int .i64 f3)) (w.heap.size + 1 + 1 + 1) 77 [.int .i64 0, .int .i64 f1, .int .i64 (f2 + f0), .int .i64 f3] := by
    simpa using ((((((RR2.out.other (0) (.int .i64 0) (g' := w.heap.size + 1) (by omega)).other (2) (.int .i64 (f2 + f0)) (g' := w.heap.size + 1) (by omega)).set 0 (.int .i64 0)).set 1 (.int .i64 f1)).set 2 (.int .i64 (f2 + f0))).set 3 (.int .i64 f3))
  have v0 := hr.cell 0
  have v1 := hr.cell 1
  have v2 := hr.cell 2
  have v3 := hr.cell 3
  simp only [List.getElem?_cons_zero, List.getElem?_cons_succ] at v0 v1 v2 v3
  refine bodyPost_ret (v := .agg #[.int .i64 0, .int .i64 f1, .int .i64 (f2 + f0), .int .i64 f3]) (by simp [results, Try.results54, go_sem, v0, v1, v2, v3]) rfl ⟨rfl, ?_⟩
  exact (((((((Below.andThen B0.out BQ.out (Nat.le_refl _)).setCell (p := ⟨w.heap.size + 1, 0, none⟩) (by dsimp only; omega) (.int .i64 0)).setCell (p := ⟨w.heap.size + 1, 2, none⟩) (by dsimp only; omega) (.int .i64 (f2 + f0))).setCell (p := ⟨w.heap.size + 1 + 1 + 1, 0, none⟩) (by dsimp only; omega) (.int .i64 0)).setCell (p := ⟨w.heap.size + 1 + 1 + 1, 1, none⟩) (by dsimp only; omega) (.int .i64 f1)).setCell (p := ⟨w.heap.size + 1 + 1 + 1, 2, none⟩) (by dsimp only; omega) (.int .i64 (f2 + f0))).setCell (p := ⟨w.heap.size + 1 + 1 + 1, 3, none⟩) (by dsimp only; omega) (.int .i64 f3))
set_option maxRecDepth 100000 in
set_option maxHeartbeats 1000000 in
theorem after_0_2h (n p0 p1 p2 p3 f0 f1 f2 f3 : Int) (hf : 0 ≤ f0 ∧ f0 ≤ 12) (ht : 0 ≤ f2 ∧ f2 ≤ p2) (hp : p2 ≤ 12) (hmin : p2 - f2 < f0) (w : World) :
    Calls Try.prog 54 #[.agg #[.int .i64 n, .int .i64 p0, .int .i64 p1, .int .i64 p2, .int .i64 p3], .agg #[.int .i64 f0, .int .i64 f1, .int .i64 f2, .int .i64 f3], .agg #[.int .i64 0, .int .i64 2]] w fun e w' => e = .returned (aggI (afterF [p0, p1, p2, p3] [f0, f1, f2, f3] 0 2)) ∧ Below w.heap.size w w' := by
  obtain ⟨V, hV, rJ, rF, rS, rR, hb, hsz⟩ := after_start w [.int .i64 n, .int .i64 p0, .int .i64 p1, .int .i64 p2, .int .i64 p3] [.int .i64 f0, .int .i64 f1, .int .i64 f2, .int .i64 f3] [.int .i64 0, .int .i64 2] [.int .i64 0, .int .i64 0, .int .i64 0, .int .i64 0]
  have e1 : IntKind.i64.wrap (p2 - f2) = p2 - f2 := i64_of _ (by omega) (by omega)
  have e2 : IntKind.i64.wrap (f0 - (p2 - f2)) = f0 - (p2 - f2) := i64_of _ (by omega) (by omega)
  have e3 : IntKind.i64.wrap (f2 + (p2 - f2)) = f2 + (p2 - f2) := i64_of _ (by omega) (by omega)
  have hm : min f0 (p2 - f2) = (p2 - f2) := by omega
  have FIN : Hid (aggI (afterF [p0, p1, p2, p3] [f0, f1, f2, f3] 0 2) = .agg #[.int .i64 (f0 - (p2 - f2)), .int .i64 f1, .int .i64 (f2 + (p2 - f2)), .int .i64 f3]) := Lib.hid (by simp [afterF, aggI, encI, hm])
  rw [FIN.out]
  have HV := Lib.hid hV
  have RJ := Lib.hid rJ
  have RF := Lib.hid rF
  have RR := Lib.hid rR
  have B0 := Lib.hid hb
  have s0 := rS.cell 0
  have s1 := rS.cell 1
  simp only [List.getElem?_cons_zero, List.getElem?_cons_succ] at s0 s1
  have u0 := Kl.cell rS.lt s0
  have u1 := Kl.cell rS.lt s1
  clear hV rJ rF rS rR hb hsz s0 s1
  go_enter Try.func54, Try.ntmps54
  go_wp2_with fail
  rw [← HV.out]
  refine wp_region_below (by kernel_rfl) (by kernel_rfl) ?_
  repeat (go_big_quiet_step (fail))
  refine wpQuiet_nil ?_
  rintro _ ⟨wq, rfl⟩
  have BQ := Lib.hid wq.h
  generalize wq.W = w2 at *
  clear u0 u1
  have q1 := (RF.out.below BQ.out RF.out.lt).cell 0
  have q2 := (RF.out.below BQ.out RF.out.lt).cell 2
  have q3 := (RJ.out.below BQ.out RJ.out.lt).cell 3
  simp only [List.getElem?_cons_zero, List.getElem?_cons_succ] at q1 q2 q3
  have u0 := Kl.cell (RF.out.below BQ.out RF.out.lt).lt q1
  have u1 := Kl.cell (RF.out.below BQ.out RF.out.lt).lt q2
  have u2 := Kl.cell (RJ.out.below BQ.out RJ.out.lt).lt q3
  clear q1 q2 q3
  go_wp2_with fail
  refine wp_region_below (by kernel_rfl) (by kernel_rfl) ?_
  repeat (go_big_quiet_step (fail))
  refine wpQuiet_nil ?_
  rintro _ ⟨wq, rfl⟩
  have BQ := Lib.hid (Below.andThen BQ.out wq.h (by have := BQ.out.size; have := RR.out.lt; omega))
  generalize wq.W = w2 at *
  clear u0 u1 u2
  have rJ := RJ.out.below BQ.out RJ.out.lt
  have rF := RF.out.below BQ.out RF.out.lt
  have rR := RR.out.below BQ.out RR.out.lt
  have RF2 := Lib.hid rF
  have RR2 := Lib.hid rR
  have j1 := rJ.cell 1
  have j2 := rJ.cell 2
  have j3 := rJ.cell 3
  have j4 := rJ.cell 4
  have c0 := rF.cell 0
  have c1 := rF.cell 1
  have c2 := rF.cell 2
  have c3 := rF.cell 3
  have z0 := rR.cell 0
  have z1 := rR.cell 1
  have z2 := rR.cell 2
  have z3 := rR.cell 3
  have k0 := frozen_of_row _ (w.heap.size + 1) 0 _ _ rF
  have k1 := frozen_of_row _ (w.heap.size + 1) 1 _ _ rF
  have k2 := frozen_of_row _ (w.heap.size + 1) 2 _ _ rF
  have k3 := frozen_of_row _ (w.heap.size + 1) 3 _ _ rF
  have l0 := frozen_of_row _ (w.heap.size + 1 + 1 + 1) 0 _ _ rR
  have l1 := frozen_of_row _ (w.heap.size + 1 + 1 + 1) 1 _ _ rR
  have l2 := frozen_of_row _ (w.heap.size + 1 + 1 + 1) 2 _ _ rR
  have l3 := frozen_of_row _ (w.heap.size + 1 + 1 + 1) 3 _ _ rR
  simp only [List.getElem?_cons_zero, List.getElem?_cons_succ] at j1 j2 j3 j4 c0 c1 c2 c3 z0 z1 z2 z3
  clear rJ rF rR
  go_wp2_with fail
  all_goals first | (exfalso; omega) | skip
  have hr : Row ((((((w2.setCell ⟨w.heap.size + 1, 0, none⟩ (.int .i64 (f0 - (p2 - f2)))).setCell ⟨w.heap.size + 1, 2, none⟩ (.int .i64 (f2 + (p2 - f2)))).setCell ⟨w.heap.size + 1 + 1 + 1, 0, none⟩ (.int .i64 (f0 - (p2 - f2)))).setCell ⟨w.heap.size + 1 + 1 + 1, 1, none⟩ (.int .i64 f1)).setCell ⟨w.heap.size + 1 + 1 + 1, 2, none⟩ (.int .i64 (f2 + (p2 - f2)))).setCell ⟨w.heap.size + 1 + 1 + 1, 3, none⟩ (.int .i64 f3)) (w.heap.size + 1 + 1 + 1) 77 [.int .i64 (f0 - (p2 - f2)), .int .i64 f1, .int .i64 (f2 + (p2 - f2)), .int .i64 f3] := by
    simpa using ((((((RR2.out.other (0) (.int .i64 (f0 - (p2 - f2))) (g' := w.heap.size + 1) (by omega)).other (2) (.int .i64 (f2 + (p2 - f2))) (g' := w.heap.size + 1) (by omega)).set 0 (.int .i64 (f0 - (p2 - f2)))).set 1 (.int .i64 f1)).set 2 (.int .i64 (f2 + (p2 - f2)))).set 3 (.int .i64 f3))
  have v0 := hr.cell 0
  have v1 := hr.cell 1
  have v2 := hr.cell 2
  have v3 := hr.cell 3
  simp only [List.getElem?_cons_zero, List.getElem?_cons_succ] at v0 v1 v2 v3
  refine bodyPost_ret (v := .agg #[.int .i64 (f0 - (p2 - f2)), .int .i64 f1, .int .i64 (f2 + (p2 - f2)), .int .i64 f3]) (by simp [results, Try.results54, go_sem, v0, v1, v2, v3]) rfl ⟨rfl, ?_⟩
  exact (((((((Below.andThen B0.out BQ.out (Nat.le_refl _)).setCell (p := ⟨w.heap.size + 1, 0, none⟩) (by dsimp only; omega) (.int .i64 (f0 - (p2 - f2)))).setCell (p := ⟨w.heap.size + 1, 2, none⟩) (by dsimp only; omega) (.int .i64 (f2 + (p2 - f2)))).setCell (p := ⟨w.heap.size + 1 + 1 + 1, 0, none⟩) (by dsimp only; omega) (.int .i64 (f0 - (p2 - f2)))).setCell (p := ⟨w.heap.size + 1 + 1 + 1, 1, none⟩) (by dsimp only; omega) (.int .i64 f1)).setCell (p := ⟨w.heap.size + 1 + 1 + 1, 2, none⟩) (by dsimp only; omega) (.int .i64 (f2 + (p2 - f2)))).setCell (p := ⟨w.heap.size + 1 + 1 + 1, 3, none⟩) (by dsimp only; omega) (.int .i64 f3))
set_option maxRecDepth 100000 in
set_option maxHeartbeats 1000000 in
theorem after_0_3l (n p0 p1 p2 p3 f0 f1 f2 f3 : Int) (hf : 0 ≤ f0 ∧ f0 ≤ 12) (ht : 0 ≤ f3 ∧ f3 ≤ p3) (hp : p3 ≤ 12) (hmin : f0 ≤ p3 - f3) (w : World) :
    Calls Try.prog 54 #[.agg #[.int .i64 n, .int .i64 p0, .int .i64 p1, .int .i64 p2, .int .i64 p3], .agg #[.int .i64 f0, .int .i64 f1, .int .i64 f2, .int .i64 f3], .agg #[.int .i64 0, .int .i64 3]] w fun e w' => e = .returned (aggI (afterF [p0, p1, p2, p3] [f0, f1, f2, f3] 0 3)) ∧ Below w.heap.size w w' := by
  obtain ⟨V, hV, rJ, rF, rS, rR, hb, hsz⟩ := after_start w [.int .i64 n, .int .i64 p0, .int .i64 p1, .int .i64 p2, .int .i64 p3] [.int .i64 f0, .int .i64 f1, .int .i64 f2, .int .i64 f3] [.int .i64 0, .int .i64 3] [.int .i64 0, .int .i64 0, .int .i64 0, .int .i64 0]
  have e1 : IntKind.i64.wrap (p3 - f3) = p3 - f3 := i64_of _ (by omega) (by omega)
  have e2 : IntKind.i64.wrap (f0 - f0) = f0 - f0 := i64_of _ (by omega) (by omega)
  have e3 : IntKind.i64.wrap (f3 + f0) = f3 + f0 := i64_of _ (by omega) (by omega)
  have hm : min f0 (p3 - f3) = f0 := by omega
  have FIN : Hid (aggI (afterF [p0, p1, p2, p3] [f0, f1, f2, f3] 0 3) = .agg #[.int .i64 0, .int .i64 f1, .int .i64 f2, .int .i64 (f3 + f0)]) := Lib.hid (by simp [afterF, aggI, encI, hm])
  rw [FIN.out]
  have HV := Lib.hid hV
  have RJ := Lib.hid rJ
  have RF := Lib.hid rF
  have RR := Lib.hid rR
  have B0 := Lib.hid hb
  have s0 := rS.cell 0
  have s1 := rS.cell 1
  simp only [List.getElem?_cons_zero, List.getElem?_cons_succ] at s0 s1
  have u0 := Kl.cell rS.lt s0
  have u1 := Kl.cell rS.lt s1
  clear hV rJ rF rS rR hb hsz s0 s1
  go_enter Try.func54, Try.ntmps54
  go_wp2_with fail
  rw [← HV.out]
  refine wp_region_below (by kernel_rfl) (by kernel_rfl) ?_
  repeat (go_big_quiet_step (fail))
  refine wpQuiet_nil ?_
  rintro _ ⟨wq, rfl⟩
  have BQ := Lib.hid wq.h
  generalize wq.W = w2 at *
  clear u0 u1
  have q1 := (RF.out.below BQ.out RF.out.lt).cell 0
  have q2 := (RF.out.below BQ.out RF.out.lt).cell 3
  have q3 := (RJ.out.below BQ.out RJ.out.lt).cell 4
  simp only [List.getElem?_cons_zero, List.getElem?_cons_succ] at q1 q2 q3
  have u0 := Kl.cell (RF.out.below BQ.out RF.out.lt).lt q1
  have u1 := Kl.cell (RF.out.below BQ.out RF.out.lt).lt q2
  have u2 := Kl.cell (RJ.out.below BQ.out RJ.out.lt).lt q3
  clear q1 q2 q3
  go_wp2_with fail
  refine wp_region_below (by kernel_rfl) (by kernel_rfl) ?_
  repeat (go_big_quiet_step (fail))
  refine wpQuiet_nil ?_
  rintro _ ⟨wq, rfl⟩
  have BQ := Lib.hid (Below.andThen BQ.out wq.h (by have := BQ.out.size; have := RR.out.lt; omega))
  generalize wq.W = w2 at *
  clear u0 u1 u2
  have rJ := RJ.out.below BQ.out RJ.out.lt
  have rF := RF.out.below BQ.out RF.out.lt
  have rR := RR.out.below BQ.out RR.out.lt
  have RF2 := Lib.hid rF
  have RR2 := Lib.hid rR
  have j1 := rJ.cell 1
  have j2 := rJ.cell 2
  have j3 := rJ.cell 3
  have j4 := rJ.cell 4
  have c0 := rF.cell 0
  have c1 := rF.cell 1
  have c2 := rF.cell 2
  have c3 := rF.cell 3
  have z0 := rR.cell 0
  have z1 := rR.cell 1
  have z2 := rR.cell 2
  have z3 := rR.cell 3
  have k0 := frozen_of_row _ (w.heap.size + 1) 0 _ _ rF
  have k1 := frozen_of_row _ (w.heap.size + 1) 1 _ _ rF
  have k2 := frozen_of_row _ (w.heap.size + 1) 2 _ _ rF
  have k3 := frozen_of_row _ (w.heap.size + 1) 3 _ _ rF
  have l0 := frozen_of_row _ (w.heap.size + 1 + 1 + 1) 0 _ _ rR
  have l1 := frozen_of_row _ (w.heap.size + 1 + 1 + 1) 1 _ _ rR
  have l2 := frozen_of_row _ (w.heap.size + 1 + 1 + 1) 2 _ _ rR
  have l3 := frozen_of_row _ (w.heap.size + 1 + 1 + 1) 3 _ _ rR
  simp only [List.getElem?_cons_zero, List.getElem?_cons_succ] at j1 j2 j3 j4 c0 c1 c2 c3 z0 z1 z2 z3
  clear rJ rF rR
  go_wp2_with fail
  all_goals first | (exfalso; omega) | skip
  have hr : Row ((((((w2.setCell ⟨w.heap.size + 1, 0, none⟩ (.int .i64 0)).setCell ⟨w.heap.size + 1, 3, none⟩ (.int .i64 (f3 + f0))).setCell ⟨w.heap.size + 1 + 1 + 1, 0, none⟩ (.int .i64 0)).setCell ⟨w.heap.size + 1 + 1 + 1, 1, none⟩ (.int .i64 f1)).setCell ⟨w.heap.size + 1 + 1 + 1, 2, none⟩ (.int .i64 f2)).setCell ⟨w.heap.size + 1 + 1 + 1, 3, none⟩ (.int .i64 (f3 + f0))) (w.heap.size + 1 + 1 + 1) 77 [.int .i64 0, .int .i64 f1, .int .i64 f2, .int .i64 (f3 + f0)] := by
    simpa using ((((((RR2.out.other (0) (.int .i64 0) (g' := w.heap.size + 1) (by omega)).other (3) (.int .i64 (f3 + f0)) (g' := w.heap.size + 1) (by omega)).set 0 (.int .i64 0)).set 1 (.int .i64 f1)).set 2 (.int .i64 f2)).set 3 (.int .i64 (f3 + f0)))
  have v0 := hr.cell 0
  have v1 := hr.cell 1
  have v2 := hr.cell 2
  have v3 := hr.cell 3
  simp only [List.getElem?_cons_zero, List.getElem?_cons_succ] at v0 v1 v2 v3
  refine bodyPost_ret (v := .agg #[.int .i64 0, .int .i64 f1, .int .i64 f2, .int .i64 (f3 + f0)]) (by simp [results, Try.results54, go_sem, v0, v1, v2, v3]) rfl ⟨rfl, ?_⟩
  exact (((((((Below.andThen B0.out BQ.out (Nat.le_refl _)).setCell (p := ⟨w.heap.size + 1, 0, none⟩) (by dsimp only; omega) (.int .i64 0)).setCell (p := ⟨w.heap.size + 1, 3, none⟩) (by dsimp only; omega) (.int .i64 (f3 + f0))).setCell (p := ⟨w.heap.size + 1 + 1 + 1, 0, none⟩) (by dsimp only; omega) (.int .i64 0)).setCell (p := ⟨w.heap.size + 1 + 1 + 1, 1, none⟩) (by dsimp only; omega) (.int .i64 f1)).setCell (p := ⟨w.heap.size + 1 + 1 + 1, 2, none⟩) (by dsimp only; omega) (.int .i64 f2)).setCell (p := ⟨w.heap.size + 1 + 1 + 1, 3, none⟩) (by dsimp only; omega) (.int .i64 (f3 + f0)))
set_option maxRecDepth 100000 in
set_option maxHeartbeats 1000000 in
theorem after_0_3h (n p0 p1 p2 p3 f0 f1 f2 f3 : Int) (hf : 0 ≤ f0 ∧ f0 ≤ 12) (ht : 0 ≤ f3 ∧ f3 ≤ p3) (hp : p3 ≤ 12) (hmin : p3 - f3 < f0) (w : World) :
    Calls Try.prog 54 #[.agg #[.int .i64 n, .int .i64 p0, .int .i64 p1, .int .i64 p2, .int .i64 p3], .agg #[.int .i64 f0, .int .i64 f1, .int .i64 f2, .int .i64 f3], .agg #[.int .i64 0, .int .i64 3]] w fun e w' => e = .returned (aggI (afterF [p0, p1, p2, p3] [f0, f1, f2, f3] 0 3)) ∧ Below w.heap.size w w' := by
  obtain ⟨V, hV, rJ, rF, rS, rR, hb, hsz⟩ := after_start w [.int .i64 n, .int .i64 p0, .int .i64 p1, .int .i64 p2, .int .i64 p3] [.int .i64 f0, .int .i64 f1, .int .i64 f2, .int .i64 f3] [.int .i64 0, .int .i64 3] [.int .i64 0, .int .i64 0, .int .i64 0, .int .i64 0]
  have e1 : IntKind.i64.wrap (p3 - f3) = p3 - f3 := i64_of _ (by omega) (by omega)
  have e2 : IntKind.i64.wrap (f0 - (p3 - f3)) = f0 - (p3 - f3) := i64_of _ (by omega) (by omega)
  have e3 : IntKind.i64.wrap (f3 + (p3 - f3)) = f3 + (p3 - f3) := i64_of _ (by omega) (by omega)
  have hm : min f0 (p3 - f3) = (p3 - f3) := by omega
  have FIN : Hid (aggI (afterF [p0, p1, p2, p3] [f0, f1, f2, f3] 0 3) = .agg #[.int .i64 (f0 - (p3 - f3)), .int .i64 f1, .int .i64 f2, .int .i64 (f3 + (p3 - f3))]) := Lib.hid (by simp [afterF, aggI, encI, hm])
  rw [FIN.out]
  have HV := Lib.hid hV
  have RJ := Lib.hid rJ
  have RF := Lib.hid rF
  have RR := Lib.hid rR
  have B0 := Lib.hid hb
  have s0 := rS.cell 0
  have s1 := rS.cell 1
  simp only [List.getElem?_cons_zero, List.getElem?_cons_succ] at s0 s1
  have u0 := Kl.cell rS.lt s0
  have u1 := Kl.cell rS.lt s1
  clear hV rJ rF rS rR hb hsz s0 s1
  go_enter Try.func54, Try.ntmps54
  go_wp2_with fail
  rw [← HV.out]
  refine wp_region_below (by kernel_rfl) (by kernel_rfl) ?_
  repeat (go_big_quiet_step (fail))
  refine wpQuiet_nil ?_
  rintro _ ⟨wq, rfl⟩
  have BQ := Lib.hid wq.h
  generalize wq.W = w2 at *
  clear u0 u1
  have q1 := (RF.out.below BQ.out RF.out.lt).cell 0
  have q2 := (RF.out.below BQ.out RF.out.lt).cell 3
  have q3 := (RJ.out.below BQ.out RJ.out.lt).cell 4
  simp only [List.getElem?_cons_zero, List.getElem?_cons_succ] at q1 q2 q3
  have u0 := Kl.cell (RF.out.below BQ.out RF.out.lt).lt q1
  have u1 := Kl.cell (RF.out.below BQ.out RF.out.lt).lt q2
  have u2 := Kl.cell (RJ.out.below BQ.out RJ.out.lt).lt q3
  clear q1 q2 q3
  go_wp2_with fail
  refine wp_region_below (by kernel_rfl) (by kernel_rfl) ?_
  repeat (go_big_quiet_step (fail))
  refine wpQuiet_nil ?_
  rintro _ ⟨wq, rfl⟩
  have BQ := Lib.hid (Below.andThen BQ.out wq.h (by have := BQ.out.size; have := RR.out.lt; omega))
  generalize wq.W = w2 at *
  clear u0 u1 u2
  have rJ := RJ.out.below BQ.out RJ.out.lt
  have rF := RF.out.below BQ.out RF.out.lt
  have rR := RR.out.below BQ.out RR.out.lt
  have RF2 := Lib.hid rF
  have RR2 := Lib.hid rR
  have j1 := rJ.cell 1
  have j2 := rJ.cell 2
  have j3 := rJ.cell 3
  have j4 := rJ.cell 4
  have c0 := rF.cell 0
  have c1 := rF.cell 1
  have c2 := rF.cell 2
  have c3 := rF.cell 3
  have z0 := rR.cell 0
  have z1 := rR.cell 1
  have z2 := rR.cell 2
  have z3 := rR.cell 3
  have k0 := frozen_of_row _ (w.heap.size + 1) 0 _ _ rF
  have k1 := frozen_of_row _ (w.heap.size + 1) 1 _ _ rF
  have k2 := frozen_of_row _ (w.heap.size + 1) 2 _ _ rF
  have k3 := frozen_of_row _ (w.heap.size + 1) 3 _ _ rF
  have l0 := frozen_of_row _ (w.heap.size + 1 + 1 + 1) 0 _ _ rR
  have l1 := frozen_of_row _ (w.heap.size + 1 + 1 + 1) 1 _ _ rR
  have l2 := frozen_of_row _ (w.heap.size + 1 + 1 + 1) 2 _ _ rR
  have l3 := frozen_of_row _ (w.heap.size + 1 + 1 + 1) 3 _ _ rR
  simp only [List.getElem?_cons_zero, List.getElem?_cons_succ] at j1 j2 j3 j4 c0 c1 c2 c3 z0 z1 z2 z3
  clear rJ rF rR
  go_wp2_with fail
  all_goals first | (exfalso; omega) | skip
  have hr : Row ((((((w2.setCell ⟨w.heap.size + 1, 0, none⟩ (.int .i64 (f0 - (p3 - f3)))).setCell ⟨w.heap.size + 1, 3, none⟩ (.int .i64 (f3 + (p3 - f3)))).setCell ⟨w.heap.size + 1 + 1 + 1, 0, none⟩ (.int .i64 (f0 - (p3 - f3)))).setCell ⟨w.heap.size + 1 + 1 + 1, 1, none⟩ (.int .i64 f1)).setCell ⟨w.heap.size + 1 + 1 + 1, 2, none⟩ (.int .i64 f2)).setCell ⟨w.heap.size + 1 + 1 + 1, 3, none⟩ (.int .i64 (f3 + (p3 - f3)))) (w.heap.size + 1 + 1 + 1) 77 [.int .i64 (f0 - (p3 - f3)), .int .i64 f1, .int .i64 f2, .int .i64 (f3 + (p3 - f3))] := by
    simpa using ((((((RR2.out.other (0) (.int .i64 (f0 - (p3 - f3))) (g' := w.heap.size + 1) (by omega)).other (3) (.int .i64 (f3 + (p3 - f3))) (g' := w.heap.size + 1) (by omega)).set 0 (.int .i64 (f0 - (p3 - f3)))).set 1 (.int .i64 f1)).set 2 (.int .i64 f2)).set 3 (.int .i64 (f3 + (p3 - f3))))
  have v0 := hr.cell 0
  have v1 := hr.cell 1
  have v2 := hr.cell 2
  have v3 := hr.cell 3
  simp only [List.getElem?_cons_zero, List.getElem?_cons_succ] at v0 v1 v2 v3
  refine bodyPost_ret (v := .agg #[.int .i64 (f0 - (p3 - f3)), .int .i64 f1, .int .i64 f2, .int .i64 (f3 + (p3 - f3))]) (by simp [results, Try.results54, go_sem, v0, v1, v2, v3]) rfl ⟨rfl, ?_⟩
  exact (((((((Below.andThen B0.out BQ.out (Nat.le_refl _)).setCell (p := ⟨w.heap.size + 1, 0, none⟩) (by dsimp only; omega) (.int .i64 (f0 - (p3 - f3)))).setCell (p := ⟨w.heap.size + 1, 3, none⟩) (by dsimp only; omega) (.int .i64 (f3 + (p3 - f3)))).setCell (p := ⟨w.heap.size + 1 + 1 + 1, 0, none⟩) (by dsimp only; omega) (.int .i64 (f0 - (p3 - f3)))).setCell (p := ⟨w.heap.size + 1 + 1 + 1, 1, none⟩) (by dsimp only; omega) (.int .i64 f1)).setCell (p := ⟨w.heap.size + 1 + 1 + 1, 2, none⟩) (by dsimp only; omega) (.int .i64 f2)).setCell (p := ⟨w.heap.size + 1 + 1 + 1, 3, none⟩) (by dsimp only; omega) (.int .i64 (f3 + (p3 - f3))))
set_option maxRecDepth 100000 in
set_option maxHeartbeats 1000000 in
theorem after_1_s (n p0 p1 p2 p3 f0 f1 f2 f3 : Int) (w : World) :
    Calls Try.prog 54 #[.agg #[.int .i64 n, .int .i64 p0, .int .i64 p1, .int .i64 p2, .int .i64 p3], .agg #[.int .i64 f0, .int .i64 f1, .int .i64 f2, .int .i64 f3], .agg #[.int .i64 1, .int .i64 (-1)]] w fun e w' => e = .returned (aggI (afterF [p0, p1, p2, p3] [f0, f1, f2, f3] 1 (-1))) ∧ Below w.heap.size w w' := by
  obtain ⟨V, hV, rJ, rF, rS, rR, hb, hsz⟩ := after_start w [.int .i64 n, .int .i64 p0, .int .i64 p1, .int .i64 p2, .int .i64 p3] [.int .i64 f0, .int .i64 f1, .int .i64 f2, .int .i64 f3] [.int .i64 1, .int .i64 (-1)] [.int .i64 0, .int .i64 0, .int .i64 0, .int .i64 0]
  have FIN : Hid (aggI (afterF [p0, p1, p2, p3] [f0, f1, f2, f3] 1 (-1)) = .agg #[.int .i64 f0, .int .i64 0, .int .i64 f2, .int .i64 f3]) := Lib.hid (by simp [afterF, aggI, encI])
  rw [FIN.out]
  have HV := Lib.hid hV
  have RJ := Lib.hid rJ
  have RF := Lib.hid rF
  have RR := Lib.hid rR
  have B0 := Lib.hid hb
  have s0 := rS.cell 0
  have s1 := rS.cell 1
  simp only [List.getElem?_cons_zero, List.getElem?_cons_succ] at s0 s1
  have u0 := Kl.cell rS.lt s0
  have u1 := Kl.cell rS.lt s1
  clear hV rJ rF rS rR hb hsz s0 s1
  go_enter Try.func54, Try.ntmps54
  go_wp2_with fail
  rw [← HV.out]
  refine wp_region_below (by kernel_rfl) (by kernel_rfl) ?_
  repeat (go_big_quiet_step (fail))
  refine wpQuiet_nil ?_
  rintro _ ⟨wq, rfl⟩
  have BQ := Lib.hid wq.h
  generalize wq.W = w2 at *
  clear u0 u1
  have rJ := RJ.out.below BQ.out RJ.out.lt
  have rF := RF.out.below BQ.out RF.out.lt
  have rR := RR.out.below BQ.out RR.out.lt
  have RF2 := Lib.hid rF
  have RR2 := Lib.hid rR
  have j1 := rJ.cell 1
  have j2 := rJ.cell 2
  have j3 := rJ.cell 3
  have j4 := rJ.cell 4
  have c0 := rF.cell 0
  have c1 := rF.cell 1
  have c2 := rF.cell 2
  have c3 := rF.cell 3
  have z0 := rR.cell 0
  have z1 := rR.cell 1
  have z2 := rR.cell 2
  have z3 := rR.cell 3
  have k0 := frozen_of_row _ (w.heap.size + 1) 0 _ _ rF
  have k1 := frozen_of_row _ (w.heap.size + 1) 1 _ _ rF
  have k2 := frozen_of_row _ (w.heap.size + 1) 2 _ _ rF
  have k3 := frozen_of_row _ (w.heap.size + 1) 3 _ _ rF
  have l0 := frozen_of_row _ (w.heap.size + 1 + 1 + 1) 0 _ _ rR
  have l1 := frozen_of_row _ (w.heap.size + 1 + 1 + 1) 1 _ _ rR
  have l2 := frozen_of_row _ (w.heap.size + 1 + 1 + 1) 2 _ _ rR
  have l3 := frozen_of_row _ (w.heap.size + 1 + 1 + 1) 3 _ _ rR
  simp only [List.getElem?_cons_zero, List.getElem?_cons_succ] at j1 j2 j3 j4 c0 c1 c2 c3 z0 z1 z2 z3
  clear rJ rF rR
  go_wp2_with fail
  have hr : Row (((((w2.setCell ⟨w.heap.size + 1, 1, none⟩ (.int .i64 0)).setCell ⟨w.heap.size + 1 + 1 + 1, 0, none⟩ (.int .i64 f0)).setCell ⟨w.heap.size + 1 + 1 + 1, 1, none⟩ (.int .i64 0)).setCell ⟨w.heap.size + 1 + 1 + 1, 2, none⟩ (.int .i64 f2)).setCell ⟨w.heap.size + 1 + 1 + 1, 3, none⟩ (.int .i64 f3)) (w.heap.size + 1 + 1 + 1) 77 [.int .i64 f0, .int .i64 0, .int .i64 f2, .int .i64 f3] := by
    simpa using (((((RR2.out.other (1) (.int .i64 0) (g' := w.heap.size + 1) (by omega)).set 0 (.int .i64 f0)).set 1 (.int .i64 0)).set 2 (.int .i64 f2)).set 3 (.int .i64 f3))
  have v0 := hr.cell 0
  have v1 := hr.cell 1
  have v2 := hr.cell 2
  have v3 := hr.cell 3
  simp only [List.getElem?_cons_zero, List.getElem?_cons_succ] at v0 v1 v2 v3
  refine bodyPost_ret (v := .agg #[.int .i64 f0, .int .i64 0, .int .i64 f2, .int .i64 f3]) (by simp [results, Try.results54, go_sem, v0, v1, v2, v3]) rfl ⟨rfl, ?_⟩
  exact ((((((Below.andThen B0.out BQ.out (Nat.le_refl _)).setCell (p := ⟨w.heap.size + 1, 1, none⟩) (by dsimp only; omega) (.int .i64 0)).setCell (p := ⟨w.heap.size + 1 + 1 + 1, 0, none⟩) (by dsimp only; omega) (.int .i64 f0)).setCell (p := ⟨w.heap.size + 1 + 1 + 1, 1, none⟩) (by dsimp only; omega) (.int .i64 0)).setCell (p := ⟨w.heap.size + 1 + 1 + 1, 2, none⟩) (by dsimp only; omega) (.int .i64 f2)).setCell (p := ⟨w.heap.size + 1 + 1 + 1, 3, none⟩) (by dsimp only; omega) (.int .i64 f3))
set_option maxRecDepth 100000 in
set_option maxHeartbeats 1000000 in
theorem after_1_0l (n p0 p1 p2 p3 f0 f1 f2 f3 : Int) (hf : 0 ≤ f1 ∧ f1 ≤ 12) (ht : 0 ≤ f0 ∧ f0 ≤ p0) (hp : p0 ≤ 12) (hmin : f1 ≤ p0 - f0) (w : World) :
    Calls Try.prog 54 #[.agg #[.int .i64 n, .int .i64 p0, .int .i64 p1, .int .i64 p2, .int .i64 p3], .agg #[.int .i64 f0, .int .i64 f1, .int .i64 f2, .int .i64 f3], .agg #[.int .i64 1, .int .i64 0]] w fun e w' => e = .returned (aggI (afterF [p0, p1, p2, p3] [f0, f1, f2, f3] 1 0)) ∧ Below w.heap.size w w' := by
  obtain ⟨V, hV, rJ, rF, rS, rR, hb, hsz⟩ := after_start w [.int .i64 n, .int .i64 p0, .int .i64 p1, .int .i64 p2, .int .i64 p3] [.int .i64 f0, .int .i64 f1, .int .i64 f2, .int .i64 f3] [.int .i64 1, .int .i64 0] [.int .i64 0, .int .i64 0, .int .i64 0, .int .i64 0]
  have e1 : IntKind.i64.wrap (p0 - f0) = p0 - f0 := i64_of _ (by omega) (by omega)
  have e2 : IntKind.i64.wrap (f1 - f1) = f1 - f1 := i64_of _ (by omega) (by omega)
  have e3 : IntKind.i64.wrap (f0 + f1) = f0 + f1 := i64_of _ (by omega) (by omega)
  have hm : min f1 (p0 - f0) = f1 := by omega
  have FIN : Hid (aggI (afterF [p0, p1, p2, p3] [f0, f1, f2, f3] 1 0) = .agg #[.int .i64 (f0 + f1), .int .i64 0, .int .i64 f2, .int .i64 f3]) := Lib.hid (by simp [afterF, aggI, encI, hm])
  rw [FIN.out]
  have HV := Lib.hid hV
  have RJ := Lib.hid rJ
  have RF := Lib.hid rF
  have RR := Lib.hid rR
  have B0 := Lib.hid hb
  have s0 := rS.cell 0
  have s1 := rS.cell 1
  simp only [List.getElem?_cons_zero, List.getElem?_cons_succ] at s0 s1
  have u0 := Kl.cell rS.lt s0
  have u1 := Kl.cell rS.lt s1
  clear hV rJ rF rS rR hb hsz s0 s1
  go_enter Try.func54, Try.ntmps54
  go_wp2_with fail
  rw [← HV.out]
  refine wp_region_below (by kernel_rfl) (by kernel_rfl) ?_
  repeat (go_big_quiet_step (fail))
  refine wpQuiet_nil ?_
  rintro _ ⟨wq, rfl⟩
  have BQ := Lib.hid wq.h
  generalize wq.W = w2 at *
  clear u0 u1
  have q1 := (RF.out.below BQ.out RF.out.lt).cell 1
  have q2 := (RF.out.below BQ.out RF.out.lt).cell 0
  have q3 := (RJ.out.below BQ.out RJ.out.lt).cell 1
  simp only [List.getElem?_cons_zero, List.getElem?_cons_succ] at q1 q2 q3
  have u0 := Kl.cell (RF.out.below BQ.out RF.out.lt).lt q1
  have u1 := Kl.cell (RF.out.below BQ.out RF.out.lt).lt q2
  have u2 := Kl.cell (RJ.out.below BQ.out RJ.out.lt).lt q3
  clear q1 q2 q3
  go_wp2_with fail
  refine wp_region_below (by kernel_rfl) (by kernel_rfl) ?_
  repeat (go_big_quiet_step (fail))
  refine wpQuiet_nil ?_
  rintro _ ⟨wq, rfl⟩
  have BQ := Lib.hid (Below.andThen BQ.out wq.h (by have := BQ.out.size; have := RR.out.lt; omega))
  generalize wq.W = w2 at *
  clear u0 u1 u2
  have rJ := RJ.out.below BQ.out RJ.out.lt
  have rF := RF.out.below BQ.out RF.out.lt
  have rR := RR.out.below BQ.out RR.out.lt
  have RF2 := Lib.hid rF
  have RR2 := Lib.hid rR
  have j1 := rJ.cell 1
  have j2 := rJ.cell 2
  have j3 := rJ.cell 3
  have j4 := rJ.cell 4
  have c0 := rF.cell 0
  have c1 := rF.cell 1
  have c2 := rF.cell 2
  have c3 := rF.cell 3
  have z0 := rR.cell 0
  have z1 := rR.cell 1
  have z2 := rR.cell 2
  have z3 := rR.cell 3
  have k0 := frozen_of_row _ (w.heap.size + 1) 0 _ _ rF
  have k1 := frozen_of_row _ (w.heap.size + 1) 1 _ _ rF
  have k2 := frozen_of_row _ (w.heap.size + 1) 2 _ _ rF
  have k3 := frozen_of_row _ (w.heap.size + 1) 3 _ _ rF
  have l0 := frozen_of_row _ (w.heap.size + 1 + 1 + 1) 0 _ _ rR
  have l1 := frozen_of_row _ (w.heap.size + 1 + 1 + 1) 1 _ _ rR
  have l2 := frozen_of_row _ (w.heap.size + 1 + 1 + 1) 2 _ _ rR
  have l3 := frozen_of_row _ (w.heap.size + 1 + 1 + 1) 3 _ _ rR
  simp only [List.getElem?_cons_zero, List.getElem?_cons_succ] at j1 j2 j3 j4 c0 c1 c2 c3 z0 z1 z2 z3
  clear rJ rF rR
  go_wp2_with fail
  all_goals first | (exfalso; omega) | skip
  have hr : Row ((((((w2.setCell ⟨w.heap.size + 1, 1, none⟩ (.int .i64 0)).setCell ⟨w.heap.size + 1, 0, none⟩ (.int .i64 (f0 + f1))).setCell ⟨w.heap.size + 1 + 1 + 1, 0, none⟩ (.int .i64 (f0 + f1))).setCell ⟨w.heap.size + 1 + 1 + 1, 1, none⟩ (.int .i64 0)).setCell ⟨w.heap.size + 1 + 1 + 1, 2, none⟩ (.int .i64 f2)).setCell ⟨w.heap.size + 1 + 1 + 1, 3, none⟩ (.int .i64 f3)) (w.heap.size + 1 + 1 + 1) 77 [.int .i64 (f0 + f1), .int .i64 0, .int .i64 f2, .int .i64 f3] := by
    simpa using ((((((RR2.out.other (1) (.int .i64 0) (g' := w.heap.size + 1) (by omega)).other (0) (.int .i64 (f0 + f1)) (g' := w.heap.size + 1) (by omega)).set 0 (.int .i64 (f0 + f1))).set 1 (.int .i64 0)).set 2 (.int .i64 f2)).set 3 (.int .i64 f3))
  have v0 := hr.cell 0
  have v1 := hr.cell 1
  have v2 := hr.cell 2
  have v3 := hr.cell 3
  simp only [List.getElem?_cons_zero, List.getElem?_cons_succ] at v0 v1 v2 v3
  refine bodyPost_ret (v := .agg #[.int .i64 (f0 + f1), .int .i64 0, .int .i64 f2, .int .i64 f3]) (by simp [results, Try.results54, go_sem, v0, v1, v2, v3]) rfl ⟨rfl, ?_⟩
  exact (((((((Below.andThen B0.out BQ.out (Nat.le_refl _)).setCell (p := ⟨w.heap.size + 1, 1, none⟩) (by dsimp only; omega) (.int .i64 0)).setCell (p := ⟨w.heap.size + 1, 0, none⟩) (by dsimp only; omega) (.int .i64 (f0 + f1))).setCell (p := ⟨w.heap.size + 1 + 1 + 1, 0, none⟩) (by dsimp only; omega) (.int .i64 (f0 + f1))).setCell (p := ⟨w.heap.size + 1 + 1 + 1, 1, none⟩) (by dsimp only; omega) (.int .i64 0)).setCell (p := ⟨w.heap.size + 1 + 1 + 1, 2, none⟩) (by dsimp only; omega) (.int .i64 f2)).setCell (p := ⟨w.heap.size + 1 + 1 + 1, 3, none⟩) (by dsimp only; omega) (.int .i64 f3))
set_option maxRecDepth 100000 in
set_option maxHeartbeats 1000000 in
theorem after_1_0h (n p0 p1 p2 p3 f0 f1 f2 f3 : Int) (hf : 0 ≤ f1 ∧ f1 ≤ 12) (ht : 0 ≤ f0 ∧ f0 ≤ p0) (hp : p0 ≤ 12) (hmin : p0 - f0 < f1) (w : World) :
    Calls Try.prog 54 #[.agg #[.int .i64 n, .int .i64 p0, .int .i64 p1, .int .i64 p2, .int .i64 p3], .agg #[.int .i64 f0, .int .i64 f1, .int .i64 f2, .int .i64 f3], .agg #[.int .i64 1, .int .i64 0]] w fun e w' => e = .returned (aggI (afterF [p0, p1, p2, p3] [f0, f1, f2, f3] 1 0)) ∧ Below w.heap.size w w' := by
  obtain ⟨V, hV, rJ, rF, rS, rR, hb, hsz⟩ := after_start w [.int .i64 n, .int .i64 p0, .int .i64 p1, .int .i64 p2, .int .i64 p3] [.int .i64 f0, .int .i64 f1, .int .i64 f2, .int .i64 f3] [.int .i64 1, .int .i64 0] [.int .i64 0, .int .i64 0, .int .i64 0, .int .i64 0]
  have e1 : IntKind.i64.wrap (p0 - f0) = p0 - f0 := i64_of _ (by omega) (by omega)
  have e2 : IntKind.i64.wrap (f1 - (p0 - f0)) = f1 - (p0 - f0) := i64_of _ (by omega) (by omega)
  have e3 : IntKind.i64.wrap (f0 + (p0 - f0)) = f0 + (p0 - f0) := i64_of _ (by omega) (by omega)
  have hm : min f1 (p0 - f0) = (p0 - f0) := by omega
  have FIN : Hid (aggI (afterF [p0, p1, p2, p3] [f0, f1, f2, f3] 1 0) = .agg #[.int .i64 (f0 + (p0 - f0)), .int .i64 (f1 - (p0 - f0)), .int .i64 f2, .int .i64 f3]) := Lib.hid (by simp [afterF, aggI, encI, hm])
  rw [FIN.out]
  have HV := Lib.hid hV
  have RJ := Lib.hid rJ
  have RF := Lib.hid rF
  have RR := Lib.hid rR
  have B0 := Lib.hid hb
  have s0 := rS.cell 0
  have s1 := rS.cell 1
  simp only [List.getElem?_cons_zero, List.getElem?_cons_succ] at s0 s1
  have u0 := Kl.cell rS.lt s0
  have u1 := Kl.cell rS.lt s1
  clear hV rJ rF rS rR hb hsz s0 s1
  go_enter Try.func54, Try.ntmps54
  go_wp2_with fail
  rw [← HV.out]
  refine wp_region_below (by kernel_rfl) (by kernel_rfl) ?_
  repeat (go_big_quiet_step (fail))
  refine wpQuiet_nil ?_
  rintro _ ⟨wq, rfl⟩
  have BQ := Lib.hid wq.h
  generalize wq.W = w2 at *
  clear u0 u1
  have q1 := (RF.out.below BQ.out RF.out.lt).cell 1
  have q2 := (RF.out.below BQ.out RF.out.lt).cell 0
  have q3 := (RJ.out.below BQ.out RJ.out.lt).cell 1
  simp only [List.getElem?_cons_zero, List.getElem?_cons_succ] at q1 q2 q3
  have u0 := Kl.cell (RF.out.below BQ.out RF.out.lt).lt q1
  have u1 := Kl.cell (RF.out.below BQ.out RF.out.lt).lt q2
  have u2 := Kl.cell (RJ.out.below BQ.out RJ.out.lt).lt q3
  clear q1 q2 q3
  go_wp2_with fail
  refine wp_region_below (by kernel_rfl) (by kernel_rfl) ?_
  repeat (go_big_quiet_step (fail))
  refine wpQuiet_nil ?_
  rintro _ ⟨wq, rfl⟩
  have BQ := Lib.hid (Below.andThen BQ.out wq.h (by have := BQ.out.size; have := RR.out.lt; omega))
  generalize wq.W = w2 at *
  clear u0 u1 u2
  have rJ := RJ.out.below BQ.out RJ.out.lt
  have rF := RF.out.below BQ.out RF.out.lt
  have rR := RR.out.below BQ.out RR.out.lt
  have RF2 := Lib.hid rF
  have RR2 := Lib.hid rR
  have j1 := rJ.cell 1
  have j2 := rJ.cell 2
  have j3 := rJ.cell 3
  have j4 := rJ.cell 4
  have c0 := rF.cell 0
  have c1 := rF.cell 1
  have c2 := rF.cell 2
  have c3 := rF.cell 3
  have z0 := rR.cell 0
  have z1 := rR.cell 1
  have z2 := rR.cell 2
  have z3 := rR.cell 3
  have k0 := frozen_of_row _ (w.heap.size + 1) 0 _ _ rF
  have k1 := frozen_of_row _ (w.heap.size + 1) 1 _ _ rF
  have k2 := frozen_of_row _ (w.heap.size + 1) 2 _ _ rF
  have k3 := frozen_of_row _ (w.heap.size + 1) 3 _ _ rF
  have l0 := frozen_of_row _ (w.heap.size + 1 + 1 + 1) 0 _ _ rR
  have l1 := frozen_of_row _ (w.heap.size + 1 + 1 + 1) 1 _ _ rR
  have l2 := frozen_of_row _ (w.heap.size + 1 + 1 + 1) 2 _ _ rR
  have l3 := frozen_of_row _ (w.heap.size + 1 + 1 + 1) 3 _ _ rR
  simp only [List.getElem?_cons_zero, List.getElem?_cons_succ] at j1 j2 j3 j4 c0 c1 c2 c3 z0 z1 z2 z3
  clear rJ rF rR
  go_wp2_with fail
  all_goals first | (exfalso; omega) | skip
  have hr : Row ((((((w2.setCell ⟨w.heap.size + 1, 1, none⟩ (.int .i64 (f1 - (p0 - f0)))).setCell ⟨w.heap.size + 1, 0, none⟩ (.int .i64 (f0 + (p0 - f0)))).setCell ⟨w.heap.size + 1 + 1 + 1, 0, none⟩ (.int .i64 (f0 + (p0 - f0)))).setCell ⟨w.heap.size + 1 + 1 + 1, 1, none⟩ (.int .i64 (f1 - (p0 - f0)))).setCell ⟨w.heap.size + 1 + 1 + 1, 2, none⟩ (.int .i64 f2)).setCell ⟨w.heap.size + 1 + 1 + 1, 3, none⟩ (.int .i64 f3)) (w.heap.size + 1 + 1 + 1) 77 [.int .i64 (f0 + (p0 - f0)), .int .i64 (f1 - (p0 - f0)), .int .i64 f2, .int .i64 f3] := by
    simpa using ((((((RR2.out.other (1) (.int .i64 (f1 - (p0 - f0))) (g' := w.heap.size + 1) (by omega)).other (0) (.int .i64 (f0 + (p0 - f0))) (g' := w.heap.size + 1) (by omega)).set 0 (.int .i64 (f0 + (p0 - f0)))).set 1 (.int .i64 (f1 - (p0 - f0)))).set 2 (.int .i64 f2)).set 3 (.int .i64 f3))
  have v0 := hr.cell 0
  have v1 := hr.cell 1
  have v2 := hr.cell 2
  have v3 := hr.cell 3
  simp only [List.getElem?_cons_zero, List.getElem?_cons_succ] at v0 v1 v2 v3
  refine bodyPost_ret (v := .agg #[.int .i64 (f0 + (p0 - f0)), .int .i64 (f1 - (p0 - f0)), .int .i64 f2, .int .i64 f3]) (by simp [results, Try.results54, go_sem, v0, v1, v2, v3]) rfl ⟨rfl, ?_⟩
  exact (((((((Below.andThen B0.out BQ.out (Nat.le_refl _)).setCell (p := ⟨w.heap.size + 1, 1, none⟩) (by dsimp only; omega) (.int .i64 (f1 - (p0 - f0)))).setCell (p := ⟨w.heap.size + 1, 0, none⟩) (by dsimp only; omega) (.int .i64 (f0 + (p0 - f0)))).setCell (p := ⟨w.heap.size + 1 + 1 + 1, 0, none⟩) (by dsimp only; omega) (.int .i64 (f0 + (p0 - f0)))).setCell (p := ⟨w.heap.size + 1 + 1 + 1, 1, none⟩) (by dsimp only; omega) (.int .i64 (f1 - (p0 - f0)))).setCell (p := ⟨w.heap.size + 1 + 1 + 1, 2, none⟩) (by dsimp only; omega) (.int .i64 f2)).setCell (p := ⟨w.heap.size + 1 + 1 + 1, 3, none⟩) (by dsimp only; omega) (.int .i64 f3))
set_option maxRecDepth 100000 in
set_option maxHeartbeats 1000000 in
theorem after_1_2l (n p0 p1 p2 p3 f0 f1 f2 f3 : Int) (hf : 0 ≤ f1 ∧ f1 ≤ 12) (ht : 0 ≤ f2 ∧ f2 ≤ p2) (hp : p2 ≤ 12) (hmin : f1 ≤ p2 - f2) (w : World) :
    Calls Try.prog 54 #[.agg #[.int .i64 n, .int .i64 p0, .int .i64 p1, .int .i64 p2, .int .i64 p3], .agg #[.int .i64 f0, .int .i64 f1, .int .i64 f2, .int .i64 f3], .agg #[.int .i64 1, .int .i64 2]] w fun e w' => e = .returned (aggI (afterF [p0, p1, p2, p3] [f0, f1, f2, f3] 1 2)) ∧ Below w.heap.size w w' := by
  obtain ⟨V, hV, rJ, rF, rS, rR, hb, hsz⟩ := after_start w [.int .i64 n, .int .i64 p0, .int .i64 p1, .int .i64 p2, .int .i64 p3] [.int .i64 f0, .int .i64 f1, .int .i64 f2, .int .i64 f3] [.int .i64 1, .int .i64 2] [.int .i64 0, .int .i64 0, .int .i64 0, .int .i64 0]
  have e1 : IntKind.i64.wrap (p2 - f2) = p2 - f2 := i64_of _ (by omega) (by omega)
  have e2 : IntKind.i64.wrap (f1 - f1) = f1 - f1 := i64_of _ (by omega) (by omega)
  have e3 : IntKind.i64.wrap (f2 + f1) = f2 + f1 := i64_of _ (by omega) (by omega)
  have hm : min f1 (p2 - f2) = f1 := by omega
  have FIN : Hid (aggI (afterF [p0, p1, p2, p3] [f0, f1, f2, f3] 1 2) = .agg #[.int .i64 f0, .int .i64 0, .int .i64 (f2 + f1), .int .i64 f3]) := Lib.hid (by simp [afterF, aggI, encI, hm])
  rw [FIN.out]
  have HV := Lib.hid hV
  have RJ := Lib.hid rJ
  have RF := Lib.hid rF
  have RR := Lib.hid rR
  have B0 := Lib.hid hb
  have s0 := rS.cell 0
  have s1 := rS.cell 1
  simp only [List.getElem?_cons_zero, List.getElem?_cons_succ] at s0 s1
  have u0 := Kl.cell rS.lt s0
  have u1 := Kl.cell rS.lt s1
  clear hV rJ rF rS rR hb hsz s0 s1
  go_enter Try.func54, Try.ntmps54
  go_wp2_with fail
  rw [← HV.out]
  refine wp_region_below (by kernel_rfl) (by kernel_rfl) ?_
  repeat (go_big_quiet_step (fail))
  refine wpQuiet_nil ?_
  rintro _ ⟨wq, rfl⟩
  have BQ := Lib.hid wq.h
  generalize wq.W = w2 at *
  clear u0 u1
  have q1 := (RF.out.below BQ.out RF.out.lt).cell 1
  have q2 := (RF.out.below BQ.out RF.out.lt).cell 2
  have q3 := (RJ.out.below BQ.out RJ.out.lt).cell 3
  simp only [List.getElem?_cons_zero, List.getElem?_cons_succ] at q1 q2 q3
  have u0 := Kl.cell (RF.out.below BQ.out RF.out.lt).lt q1
  have u1 := Kl.cell (RF.out.below BQ.out RF.out.lt).lt q2
  have u2 := Kl.cell (RJ.out.below BQ.out RJ.out.lt).lt q3
  clear q1 q2 q3
  go_wp2_with fail
  refine wp_region_below (by kernel_rfl) (by kernel_rfl) ?_
  repeat (go_big_quiet_step (fail))
  refine wpQuiet_nil ?_
  rintro _ ⟨wq, rfl⟩
  have BQ := Lib.hid (Below.andThen BQ.out wq.h (by have := BQ.out.size; have := RR.out.lt; omega))
  generalize wq.W = w2 at *
  clear u0 u1 u2
  have rJ := RJ.out.below BQ.out RJ.out.lt
  have rF := RF.out.below BQ.out RF.out.lt
  have rR := RR.out.below BQ.out RR.out.lt
  have RF2 := Lib.hid rF
  have RR2 := Lib.hid rR
  have j1 := rJ.cell 1
  have j2 := rJ.cell 2
  have j3 := rJ.cell 3
  have j4 := rJ.cell 4
  have c0 := rF.cell 0
  have c1 := rF.cell 1
  have c2 := rF.cell 2
  have c3 := rF.cell 3
  have z0 := rR.cell 0
  have z1 := rR.cell 1
  have z2 := rR.cell 2
  have z3 := rR.cell 3
  have k0 := frozen_of_row _ (w.heap.size + 1) 0 _ _ rF
  have k1 := frozen_of_row _ (w.heap.size + 1) 1 _ _ rF
  have k2 := frozen_of_row _ (w.heap.size + 1) 2 _ _ rF
  have k3 := frozen_of_row _ (w.heap.size + 1) 3 _ _ rF
  have l0 := frozen_of_row _ (w.heap.size + 1 + 1 + 1) 0 _ _ rR
  have l1 := frozen_of_row _ (w.heap.size + 1 + 1 + 1) 1 _ _ rR
  have l2 := frozen_of_row _ (w.heap.size + 1 + 1 + 1) 2 _ _ rR
  have l3 := frozen_of_row _ (w.heap.size + 1 + 1 + 1) 3 _ _ rR
  simp only [List.getElem?_cons_zero, List.getElem?_cons_succ] at j1 j2 j3 j4 c0 c1 c2 c3 z0 z1 z2 z3
  clear rJ rF rR
  go_wp2_with fail
  all_goals first | (exfalso; omega) | skip
  have hr : Row ((((((w2.setCell ⟨w.heap.size + 1, 1, none⟩ (.int .i64 0)).setCell ⟨w.heap.size + 1, 2, none⟩ (.int .i64 (f2 + f1))).setCell ⟨w.heap.size + 1 + 1 + 1, 0, none⟩ (.int .i64 f0)).setCell ⟨w.heap.size + 1 + 1 + 1, 1, none⟩ (.int .i64 0)).setCell ⟨w.heap.size + 1 + 1 + 1, 2, none⟩ (.int .i64 (f2 + f1))).setCell ⟨w.heap.size + 1 + 1 + 1, 3, none⟩ (.int .i64 f3)) (w.heap.size + 1 + 1 + 1) 77 [.int .i64 f0, .int .i64 0, .int .i64 (f2 + f1), .int .i64 f3] := by
    simpa using ((((((RR2.out.other (1) (.int .i64 0) (g' := w.heap.size + 1) (by omega)).other (2) (.int .i64 (f2 + f1)) (g' := w.heap.size + 1) (by omega)).set 0 (.int .i64 f0)).set 1 (.int .i64 0)).set 2 (.int .i64 (f2 + f1))).set 3 (.int .i64 f3))
  have v0 := hr.cell 0
  have v1 := hr.cell 1
  have v2 := hr.cell 2
  have v3 := hr.cell 3
  simp only [List.getElem?_cons_zero, List.getElem?_cons_succ] at v0 v1 v2 v3
  refine bodyPost_ret (v := .agg #[.int .i64 f0, .int .i64 0, .int .i64 (f2 + f1), .int .i64 f3]) (by simp [results, Try.results54, go_sem, v0, v1, v2, v3]) rfl ⟨rfl, ?_⟩
  exact (((((((Below.andThen B0.out BQ.out (Nat.le_refl _)).setCell (p := ⟨w.heap.size + 1, 1, none⟩) (by dsimp only; omega) (.int .i64 0)).setCell (p := ⟨w.heap.size + 1, 2, none⟩) (by dsimp only; omega) (.int .i64 (f2 + f1))).setCell (p := ⟨w.heap.size + 1 + 1 + 1, 0, none⟩) (by dsimp only; omega) (.int .i64 f0)).setCell (p := ⟨w.heap.size + 1 + 1 + 1, 1, none⟩) (by dsimp only; omega) (.int .i64 0)).setCell (p := ⟨w.heap.size + 1 + 1 + 1, 2, none⟩) (by dsimp only; omega) (.int .i64 (f2 + f1))).setCell (p := ⟨w.heap.size + 1 + 1 + 1, 3, none⟩) (by dsimp only; omega) (.int .i64 f3))
set_option maxRecDepth 100000 in
set_option maxHeartbeats 1000000 in
theorem after_1_2h (n p0 p1 p2 p3 f0 f1 f2 f3 : Int) (hf : 0 ≤ f1 ∧ f1 ≤ 12) (ht : 0 ≤ f2 ∧ f2 ≤ p2) (hp : p2 ≤ 12) (hmin : p2 - f2 < f1) (w : World) :
    Calls Try.prog 54 #[.agg #[.int .i64 n, .int .i64 p0, .int .i64 p1, .int .i64 p2, .int .i64 p3], .agg #[.int .i64 f0, .int .i64 f1, .int .i64 f2, .int .i64 f3], .agg #[.int .i64 1, .int .i64 2]] w fun e w' => e = .returned (aggI (afterF [p0, p1, p2, p3] [f0, f1, f2, f3] 1 2)) ∧ Below w.heap.size w w' := by
  obtain ⟨V, hV, rJ, rF, rS, rR, hb, hsz⟩ := after_start w [.int .i64 n, .int .i64 p0, .int .i64 p1, .int .i64 p2, .int .i64 p3] [.int .i64 f0, .int .i64 f1, .int .i64 f2, .int .i64 f3] [.int .i64 1, .int .i64 2] [.int .i64 0, .int .i64 0, .int .i64 0, .int .i64 0]
  have e1 : IntKind.i64.wrap (p2 - f2) = p2 - f2 := i64_of _ (by omega) (by omega)
  have e2 : IntKind.i64.wrap (f1 - (p2 - f2)) = f1 - (p2 - f2) := i64_of _ (by omega) (by omega)
  have e3 : IntKind.i64.wrap (f2 + (p2 - f2)) = f2 + (p2 - f2) := i64_of _ (by omega) (by omega)
  have hm : min f1 (p2 - f2) = (p2 - f2) := by omega
  have FIN : Hid (aggI (afterF [p0, p1, p2, p3] [f0, f1, f2, f3] 1 2) = .agg #[.int .i64 f0, .int .i64 (f1 - (p2 - f2)), .int .i64 (f2 + (p2 - f2)), .int .i64 f3]) := Lib.hid (by simp [afterF, aggI, encI, hm])
  rw [FIN.out]
  have HV := Lib.hid hV
  have RJ := Lib.hid rJ
  have RF := Lib.hid rF
  have RR := Lib.hid rR
  have B0 := Lib.hid hb
  have s0 := rS.cell 0
  have s1 := rS.cell 1
  simp only [List.getElem?_cons_zero, List.getElem?_cons_succ] at s0 s1
  have u0 := Kl.cell rS.lt s0
  have u1 := Kl.cell rS.lt s1
  clear hV rJ rF rS rR hb hsz s0 s1
  go_enter Try.func54, Try.ntmps54
  go_wp2_with fail
  rw [← HV.out]
  refine wp_region_below (by kernel_rfl) (by kernel_rfl) ?_
  repeat (go_big_quiet_step (fail))
  refine wpQuiet_nil ?_
  rintro _ ⟨wq, rfl⟩
  have BQ := Lib.hid wq.h
  generalize wq.W = w2 at *
  clear u0 u1
  have q1 := (RF.out.below BQ.out RF.out.lt).cell 1
  have q2 := (RF.out.below BQ.out RF.out.lt).cell 2
  have q3 := (RJ.out.below BQ.out RJ.out.lt).cell 3
  simp only [List.getElem?_cons_zero, List.getElem?_cons_succ] at q1 q2 q3
  have u0 := Kl.cell (RF.out.below BQ.out RF.out.lt).lt q1
  have u1 := Kl.cell (RF.out.below BQ.out RF.out.lt).lt q2
  have u2 := Kl.cell (RJ.out.below BQ.out RJ.out.lt).lt q3
  clear q1 q2 q3
  go_wp2_with fail
  refine wp_region_below (by kernel_rfl) (by kernel_rfl) ?_
  repeat (go_big_quiet_step (fail))
  refine wpQuiet_nil ?_
  rintro _ ⟨wq, rfl⟩
  have BQ := Lib.hid (Below.andThen BQ.out wq.h (by have := BQ.out.size; have := RR.out.lt; omega))
  generalize wq.W = w2 at *
  clear u0 u1 u2
  have rJ := RJ.out.below BQ.out RJ.out.lt
  have rF := RF.out.below BQ.out RF.out.lt
  have rR := RR.out.below BQ.out RR.out.lt
  have RF2 := Lib.hid rF
  have RR2 := Lib.hid rR
  have j1 := rJ.cell 1
  have j2 := rJ.cell 2
  have j3 := rJ.cell 3
  have j4 := rJ.cell 4
  have c0 := rF.cell 0
  have c1 := rF.cell 1
  have c2 := rF.cell 2
  have c3 := rF.cell 3
  have z0 := rR.cell 0
  have z1 := rR.cell 1
  have z2 := rR.cell 2
  have z3 := rR.cell 3
  have k0 := frozen_of_row _ (w.heap.size + 1) 0 _ _ rF
  have k1 := frozen_of_row _ (w.heap.size + 1) 1 _ _ rF
  have k2 := frozen_of_row _ (w.heap.size + 1) 2 _ _ rF
  have k3 := frozen_of_row _ (w.heap.size + 1) 3 _ _ rF
  have l0 := frozen_of_row _ (w.heap.size + 1 + 1 + 1) 0 _ _ rR
  have l1 := frozen_of_row _ (w.heap.size + 1 + 1 + 1) 1 _ _ rR
  have l2 := frozen_of_row _ (w.heap.size + 1 + 1 + 1) 2 _ _ rR
  have l3 := frozen_of_row _ (w.heap.size + 1 + 1 + 1) 3 _ _ rR
  simp only [List.getElem?_cons_zero, List.getElem?_cons_succ] at j1 j2 j3 j4 c0 c1 c2 c3 z0 z1 z2 z3
  clear rJ rF rR
  go_wp2_with fail
  all_goals first | (exfalso; omega) | skip
  have hr : Row ((((((w2.setCell ⟨w.heap.size + 1, 1, none⟩ (.int .i64 (f1 - (p2 - f2)))).setCell ⟨w.heap.size + 1, 2, none⟩ (.int .i64 (f2 + (p2 - f2)))).setCell ⟨w.heap.size + 1 + 1 + 1, 0, none⟩ (.int .i64 f0)).setCell ⟨w.heap.size + 1 + 1 + 1, 1, none⟩ (.int .i64 (f1 - (p2 - f2)))).setCell ⟨w.heap.size + 1 + 1 + 1, 2, none⟩ (.int .i64 (f2 + (p2 - f2)))).setCell ⟨w.heap.size + 1 + 1 + 1, 3, none⟩ (.int .i64 f3)) (w.heap.size + 1 + 1 + 1) 77 [.int .i64 f0, .int .i64 (f1 - (p2 - f2)), .int .i64 (f2 + (p2 - f2)), .int .i64 f3] := by
    simpa using ((((((RR2.out.other (1) (.int .i64 (f1 - (p2 - f2))) (g' := w.heap.size + 1) (by omega)).other (2) (.int .i64 (f2 + (p2 - f2))) (g' := w.heap.size + 1) (by omega)).set 0 (.int .i64 f0)).set 1 (.int .i64 (f1 - (p2 - f2)))).set 2 (.int .i64 (f2 + (p2 - f2)))).set 3 (.int .i64 f3))
  have v0 := hr.cell 0
  have v1 := hr.cell 1
  have v2 := hr.cell 2
  have v3 := hr.cell 3
  simp only [List.getElem?_cons_zero, List.getElem?_cons_succ] at v0 v1 v2 v3
  refine bodyPost_ret (v := .agg #[.int .i64 f0, .int .i64 (f1 - (p2 - f2)), .int .i64 (f2 + (p2 - f2)), .int .i64 f3]) (by simp [results, Try.results54, go_sem, v0, v1, v2, v3]) rfl ⟨rfl, ?_⟩
  exact (((((((Below.andThen B0.out BQ.out (Nat.le_refl _)).setCell (p := ⟨w.heap.size + 1, 1, none⟩) (by dsimp only; omega) (.int .i64 (f1 - (p2 - f2)))).setCell (p := ⟨w.heap.size + 1, 2, none⟩) (by dsimp only; omega) (.int .i64 (f2 + (p2 - f2)))).setCell (p := ⟨w.heap.size + 1 + 1 + 1, 0, none⟩) (by dsimp only; omega) (.int .i64 f0)).setCell (p := ⟨w.heap.size + 1 + 1 + 1, 1, none⟩) (by dsimp only; omega) (.int .i64 (f1 - (p2 - f2)))).setCell (p := ⟨w.heap.size + 1 + 1 + 1, 2, none⟩) (by dsimp only; omega) (.int .i64 (f2 + (p2 - f2)))).setCell (p := ⟨w.heap.size + 1 + 1 + 1, 3, none⟩) (by dsimp only; omega) (.int .i64 f3))
set_option maxRecDepth 100000 in
set_option maxHeartbeats 1000000 in
theorem after_1_3l (n p0 p1 p2 p3 f0 f1 f2 f3 : Int) (hf : 0 ≤ f1 ∧ f1 ≤ 12) (ht : 0 ≤ f3 ∧ f3 ≤ p3) (hp : p3 ≤ 12) (hmin : f1 ≤ p3 - f3) (w : World) :
    Calls Try.prog 54 #[.agg #[.int .i64 n, .int .i64 p0, .int .i64 p1, .int .i64 p2, .int .i64 p3], .agg #[.int .i64 f0, .int .i64 f1, .int .i64 f2, .int .i64 f3], .agg #[.int .i64 1, .int .i64 3]] w fun e w' => e = .returned (aggI (afterF [p0, p1, p2, p3] [f0, f1, f2, f3] 1 3)) ∧ Below w.heap.size w w' := by
  obtain ⟨V, hV, rJ, rF, rS, rR, hb, hsz⟩ := after_start w [.int .i64 n, .int .i64 p0, .int .i64 p1, .int .i64 p2, .int .i64 p3] [.int .i64 f0, .int .i64 f1, .int .i64 f2, .int .i64 f3] [.int .i64 1, .int .i64 3] [.int .i64 0, .int .i64 0, .int .i64 0, .int .i64 0]
  have e1 : IntKind.i64.wrap (p3 - f3) = p3 - f3 := i64_of _ (by omega) (by omega)
  have e2 : IntKind.i64.wrap (f1 - f1) = f1 - f1 := i64_of _ (by omega) (by omega)
  have e3 : IntKind.i64.wrap (f3 + f1) = f3 + f1 := i64_of _ (by omega) (by omega)
  have hm : min f1 (p3 - f3) = f1 := by omega
  have FIN : Hid (aggI (afterF [p0, p1, p2, p3] [f0, f1, f2, f3] 1 3) = .agg #[.int .i64 f0, .int .i64 0, .int .i64 f2, .int .i64 (f3 + f1)]) := Lib.hid (by simp [afterF, aggI, encI, hm])
  rw [FIN.out]
  have HV := Lib.hid hV
  have RJ := Lib.hid rJ
  have RF := Lib.hid rF
  have RR := Lib.hid rR
  have B0 := Lib.hid hb
  have s0 := rS.cell 0
  have s1 := rS.cell 1
  simp only [List.getElem?_cons_zero, List.getElem?_cons_succ] at s0 s1
  have u0 := Kl.cell rS.lt s0
  have u1 := Kl.cell rS.lt s1
  clear hV rJ rF rS rR hb hsz s0 s1
  go_enter Try.func54, Try.ntmps54
  go_wp2_with fail
  rw [← HV.out]
  refine wp_region_below (by kernel_rfl) (by kernel_rfl) ?_
  repeat (go_big_quiet_step (fail))
  refine wpQuiet_nil ?_
  rintro _ ⟨wq, rfl⟩
  have BQ := Lib.hid wq.h
  generalize wq.W = w2 at *
  clear u0 u1
  have q1 := (RF.out.below BQ.out RF.out.lt).cell 1
  have q2 := (RF.out.below BQ.out RF.out.lt).cell 3
  have q3 := (RJ.out.below BQ.out RJ.out.lt).cell 4
  simp only [List.getElem?_cons_zero, List.getElem?_cons_succ] at q1 q2 q3
  have u0 := Kl.cell (RF.out.below BQ.out RF.out.lt).lt q1
  have u1 := Kl.cell (RF.out.below BQ.out RF.out.lt).lt q2
  have u2 := Kl.cell (RJ.out.below BQ.out RJ.out.lt).lt q3
  clear q1 q2 q3
  go_wp2_with fail
  refine wp_region_below (by kernel_rfl) (by kernel_rfl) ?_
  repeat (go_big_quiet_step (fail))
  refine wpQuiet_nil ?_
  rintro _ ⟨wq, rfl⟩
  have BQ := Lib.hid (Below.andThen BQ.out wq.h (by have := BQ.out.size; have := RR.out.lt; omega))
  generalize wq.W = w2 at *
  clear u0 u1 u2
  have rJ := RJ.out.below BQ.out RJ.out.lt
  have rF := RF.out.below BQ.out RF.out.lt
  have rR := RR.out.below BQ.out RR.out.lt
  have RF2 := Lib.hid rF
  have RR2 := Lib.hid rR
  have j1 := rJ.cell 1
  have j2 := rJ.cell 2
  have j3 := rJ.cell 3
  have j4 := rJ.cell 4
  have c0 := rF.cell 0
  have c1 := rF.cell 1
  have c2 := rF.cell 2
  have c3 := rF.cell 3
  have z0 := rR.cell 0
  have z1 := rR.cell 1
  have z2 := rR.cell 2
  have z3 := rR.cell 3
  have k0 := frozen_of_row _ (w.heap.size + 1) 0 _ _ rF
  have k1 := frozen_of_row _ (w.heap.size + 1) 1 _ _ rF
  have k2 := frozen_of_row _ (w.heap.size + 1) 2 _ _ rF
  have k3 := frozen_of_row _ (w.heap.size + 1) 3 _ _ rF
  have l0 := frozen_of_row _ (w.heap.size + 1 + 1 + 1) 0 _ _ rR
  have l1 := frozen_of_row _ (w.heap.size + 1 + 1 + 1) 1 _ _ rR
  have l2 := frozen_of_row _ (w.heap.size + 1 + 1 + 1) 2 _ _ rR
  have l3 := frozen_of_row _ (w.heap.size + 1 + 1 + 1) 3 _ _ rR
  simp only [List.getElem?_cons_zero, List.getElem?_cons_succ] at j1 j2 j3 j4 c0 c1 c2 c3 z0 z1 z2 z3
  clear rJ rF rR
  go_wp2_with fail
  all_goals first | (exfalso; omega) | skip
  have hr : Row ((((((w2.setCell ⟨w.heap.size + 1, 1, none⟩ (.int .i64 0)).setCell ⟨w.heap.size + 1, 3, none⟩ (.int .i64 (f3 + f1))).setCell ⟨w.heap.size + 1 + 1 + 1, 0, none⟩ (.int .i64 f0)).setCell ⟨w.heap.size + 1 + 1 + 1, 1, none⟩ (.int .i64 0)).setCell ⟨w.heap.size + 1 + 1 + 1, 2, none⟩ (.int .i64 f2)).setCell ⟨w.heap.size + 1 + 1 + 1, 3, none⟩ (.int .i64 (f3 + f1))) (w.heap.size + 1 + 1 + 1) 77 [.int .i64 f0, .int .i64 0, .int .i64 f2, .int .i64 (f3 + f1)] := by
    simpa using ((((((RR2.out.other (1) (.int .i64 0) (g' := w.heap.size + 1) (by omega)).other (3) (.int .i64 (f3 + f1)) (g' := w.heap.size + 1) (by omega)).set 0 (.int .i64 f0)).set 1 (.int .i64 0)).set 2 (.int .i64 f2)).set 3 (.int .i64 (f3 + f1)))
  have v0 := hr.cell 0
  have v1 := hr.cell 1
  have v2 := hr.cell 2
  have v3 := hr.cell 3
  simp only [List.getElem?_cons_zero, List.getElem?_cons_succ] at v0 v1 v2 v3
  refine bodyPost_ret (v := .agg #[.int .i64 f0, .int .i64 0, .int .i64 f2, .int .i64 (f3 + f1)]) (by simp [results, Try.results54, go_sem, v0, v1, v2, v3]) rfl ⟨rfl, ?_⟩
  exact (((((((Below.andThen B0.out BQ.out (Nat.le_refl _)).setCell (p := ⟨w.heap.size + 1, 1, none⟩) (by dsimp only; omega) (.int .i64 0)).setCell (p := ⟨w.heap.size + 1, 3, none⟩) (by dsimp only; omega) (.int .i64 (f3 + f1))).setCell (p := ⟨w.heap.size + 1 + 1 + 1, 0, none⟩) (by dsimp only; omega) (.int .i64 f0)).setCell (p := ⟨w.heap.size + 1 + 1 + 1, 1, none⟩) (by dsimp only; omega) (.int .i64 0)).setCell (p := ⟨w.heap.size + 1 + 1 + 1, 2, none⟩) (by dsimp only; omega) (.int .i64 f2)).setCell (p := ⟨w.heap.size + 1 + 1 + 1, 3, none⟩) (by dsimp only; omega) (.int .i64 (f3 + f1)))
set_option maxRecDepth 100000 in
set_option maxHeartbeats 1000000 in
theorem after_1_3h (n p0 p1 p2 p3 f0 f1 f2 f3 : Int) (hf : 0 ≤ f1 ∧ f1 ≤ 12) (ht : 0 ≤ f3 ∧ f3 ≤ p3) (hp : p3 ≤ 12) (hmin : p3 - f3 < f1) (w : World) :
    Calls Try.prog 54 #[.agg #[.int .i64 n, .int .i64 p0, .int .i64 p1, .int .i64 p2, .int .i64 p3], .agg #[.int .i64 f0, .int .i64 f1, .int .i64 f2, .int .i64 f3], .agg #[.int .i64 1, .int .i64 3]] w fun e w' => e = .returned (aggI (afterF [p0, p1, p2, p3] [f0, f1, f2, f3] 1 3)) ∧ Below w.heap.size w w' := by
  obtain ⟨V, hV, rJ, rF, rS, rR, hb, hsz⟩ := after_start w [.int .i64 n, .int .i64 p0, .int .i64 p1, .int .i64 p2, .int .i64 p3] [.int .i64 f0, .int .i64 f1, .int .i64 f2, .int .i64 f3] [.int .i64 1, .int .i64 3] [.int .i64 0, .int .i64 0, .int .i64 0, .int .i64 0]
  have e1 : IntKind.i64.wrap (p3 - f3) = p3 - f3 := i64_of _ (by omega) (by omega)
  have e2 : IntKind.i64.wrap (f1 - (p3 - f3)) = f1 - (p3 - f3) := i64_of _ (by omega) (by omega)
  have e3 : IntKind.i64.wrap (f3 + (p3 - f3)) = f3 + (p3 - f3) := i64_of _ (by omega) (by omega)
  have hm : min f1 (p3 - f3) = (p3 - f3) := by omega
  have FIN : Hid (aggI (afterF [p0, p1, p2, p3] [f0, f1, f2, f3] 1 3) = .agg #[.int .i64 f0, .int .i64 (f1 - (p3 - f3)), .int .i64 f2, .int .i64 (f3 + (p3 - f3))]) := Lib.hid (by simp [afterF, aggI, encI, hm])
  rw [FIN.out]
  have HV := Lib.hid hV
  have RJ := Lib.hid rJ
  have RF := Lib.hid rF
  have RR := Lib.hid rR
  have B0 := Lib.hid hb
  have s0 := rS.cell 0
  have s1 := rS.cell 1
  simp only [List.getElem?_cons_zero, List.getElem?_cons_succ] at s0 s1
  have u0 := Kl.cell rS.lt s0
  have u1 := Kl.cell rS.lt s1
  clear hV rJ rF rS rR hb hsz s0 s1
  go_enter Try.func54, Try.ntmps54
  go_wp2_with fail
  rw [← HV.out]
  refine wp_region_below (by kernel_rfl) (by kernel_rfl) ?_
  repeat (go_big_quiet_step (fail))
  refine wpQuiet_nil ?_
  rintro _ ⟨wq, rfl⟩
  have BQ := Lib.hid wq.h
  generalize wq.W = w2 at *
  clear u0 u1
  have q1 := (RF.out.below BQ.out RF.out.lt).cell 1
  have q2 := (RF.out.below BQ.out RF.out.lt).cell 3
  have q3 := (RJ.out.below BQ.out RJ.out.lt).cell 4
  simp only [List.getElem?_cons_zero, List.getElem?_cons_succ] at q1 q2 q3
  have u0 := Kl.cell (RF.out.below BQ.out RF.out.lt).lt q1
  have u1 := Kl.cell (RF.out.below BQ.out RF.out.lt).lt q2
  have u2 := Kl.cell (RJ.out.below BQ.out RJ.out.lt).lt q3
  clear q1 q2 q3
  go_wp2_with fail
  refine wp_region_below (by kernel_rfl) (by kernel_rfl) ?_
  repeat (go_big_quiet_step (fail))
  refine wpQuiet_nil ?_
  rintro _ ⟨wq, rfl⟩
  have BQ := Lib.hid (Below.andThen BQ.out wq.h (by have := BQ.out.size; have := RR.out.lt; omega))
  generalize wq.W = w2 at *
  clear u0 u1 u2
  have rJ := RJ.out.below BQ.out RJ.out.lt
  have rF := RF.out.below BQ.out RF.out.lt
  have rR := RR.out.below BQ.out RR.out.lt
  have RF2 := Lib.hid rF
  have RR2 := Lib.hid rR
  have j1 := rJ.cell 1
  have j2 := rJ.cell 2
  have j3 := rJ.cell 3
  have j4 := rJ.cell 4
  have c0 := rF.cell 0
  have c1 := rF.cell 1
  have c2 := rF.cell 2
  have c3 := rF.cell 3
  have z0 := rR.cell 0
  have z1 := rR.cell 1
  have z2 := rR.cell 2
  have z3 := rR.cell 3
  have k0 := frozen_of_row _ (w.heap.size + 1) 0 _ _ rF
  have k1 := frozen_of_row _ (w.heap.size + 1) 1 _ _ rF
  have k2 := frozen_of_row _ (w.heap.size + 1) 2 _ _ rF
  have k3 := frozen_of_row _ (w.heap.size + 1) 3 _ _ rF
  have l0 := frozen_of_row _ (w.heap.size + 1 + 1 + 1) 0 _ _ rR
  have l1 := frozen_of_row _ (w.heap.size + 1 + 1 + 1) 1 _ _ rR
  have l2 := frozen_of_row _ (w.heap.size + 1 + 1 + 1) 2 _ _ rR
  have l3 := frozen_of_row _ (w.heap.size + 1 + 1 + 1) 3 _ _ rR
  simp only [List.getElem?_cons_zero, List.getElem?_cons_succ] at j1 j2 j3 j4 c0 c1 c2 c3 z0 z1 z2 z3
  clear rJ rF rR
  go_wp2_with fail
  all_goals first | (exfalso; omega) | skip
  have hr : Row ((((((w2.setCell ⟨w.heap.size + 1, 1, none⟩ (.int .i64 (f1 - (p3 - f3)))).setCell ⟨w.heap.size + 1, 3, none⟩ (.int .i64 (f3 + (p3 - f3)))).setCell ⟨w.heap.size + 1 + 1 + 1, 0, none⟩ (.int .i64 f0)).setCell ⟨w.heap.size + 1 + 1 + 1, 1, none⟩ (.int .i64 (f1 - (p3 - f3)))).setCell ⟨w.heap.size + 1 + 1 + 1, 2, none⟩ (.int .i64 f2)).setCell ⟨w.heap.size + 1 + 1 + 1, 3, none⟩ (.int .i64 (f3 + (p3 - f3)))) (w.heap.size + 1 + 1 + 1) 77 [.int .i64 f0, .int .i64 (f1 - (p3 - f3)), .int .i64 f2, .int .i64 (f3 + (p3 - f3))] := by
    simpa using ((((((RR2.out.other (1) (.int .i64 (f1 - (p3 - f3))) (g' := w.heap.size + 1) (by omega)).other (3) (.int .i64 (f3 + (p3 - f3))) (g' := w.heap.size + 1) (by omega)).set 0 (.int .i64 f0)).set 1 (.int .i64 (f1 - (p3 - f3)))).set 2 (.int .i64 f2)).set 3 (.int .i64 (f3 + (p3 - f3))))
  have v0 := hr.cell 0
  have v1 := hr.cell 1
  have v2 := hr.cell 2
  have v3 := hr.cell 3
  simp only [List.getElem?_cons_zero, List.getElem?_cons_succ] at v0 v1 v2 v3
  refine bodyPost_ret (v := .agg #[.int .i64 f0, .int .i64 (f1 - (p3 - f3)), .int .i64 f2, .int .i64 (f3 + (p3 - f3))]) (by simp [results, Try.results54, go_sem, v0, v1, v2, v3]) rfl ⟨rfl, ?_⟩
  exact (((((((Below.andThen B0.out BQ.out (Nat.le_refl _)).setCell (p := ⟨w.heap.size + 1, 1, none⟩) (by dsimp only; omega) (.int .i64 (f1 - (p3 - f3)))).setCell (p := ⟨w.heap.size + 1, 3, none⟩) (by dsimp only; omega) (.int .i64 (f3 + (p3 - f3)))).setCell (p := ⟨w.heap.size + 1 + 1 + 1, 0, none⟩) (by dsimp only; omega) (.int .i64 f0)).setCell (p := ⟨w.heap.size + 1 + 1 + 1, 1, none⟩) (by dsimp only; omega) (.int .i64 (f1 - (p3 - f3)))).setCell (p := ⟨w.heap.size + 1 + 1 + 1, 2, none⟩) (by dsimp only; omega) (.int .i64 f2)).setCell (p := ⟨w.heap.size + 1 + 1 + 1, 3, none⟩) (by dsimp only; omega) (.int .i64 (f3 + (p3 - f3))))
set_option maxRecDepth 100000 in
set_option maxHeartbeats 1000000 in
theorem after_2_s (n p0 p1 p2 p3 f0 f1 f2 f3 : Int) (w : World) :
    Calls Try.prog 54 #[.agg #[.int .i64 n, .int .i64 p0, .int .i64 p1, .int .i64 p2, .int .i64 p3], .agg #[.int .i64 f0, .int .i64 f1, .int .i64 f2, .int .i64 f3], .agg #[.int .i64 2, .int .i64 (-1)]] w fun e w' => e = .returned (aggI (afterF [p0, p1, p2, p3] [f0, f1, f2, f3] 2 (-1))) ∧ Below w.heap.size w w' := by
  obtain ⟨V, hV, rJ, rF, rS, rR, hb, hsz⟩ := after_start w [.int .i64 n, .int .i64 p0, .int .i64 p1, .int .i64 p2, .int .i64 p3] [.int .i64 f0, .int .i64 f1, .int .i64 f2, .int .i64 f3] [.int .i64 2, .int .i64 (-1)] [.int .i64 0, .int .i64 0, .int .i64 0, .int .i64 0]
  have FIN : Hid (aggI (afterF [p0, p1, p2, p3] [f0, f1, f2, f3] 2 (-1)) = .agg #[.int .i64 f0, .int .i64 f1, .int .i64 0, .int .i64 f3]) := Lib.hid (by simp [afterF, aggI, encI])
  rw [FIN.out]
  have HV := Lib.hid hV
  have RJ := Lib.hid rJ
  have RF := Lib.hid rF
  have RR := Lib.hid rR
  have B0 := Lib.hid hb
  have s0 := rS.cell 0
  have s1 := rS.cell 1
  simp only [List.getElem?_cons_zero, List.getElem?_cons_succ] at s0 s1
  have u0 := Kl.cell rS.lt s0
  have u1 := Kl.cell rS.lt s1
  clear hV rJ rF rS rR hb hsz s0 s1
  go_enter Try.func54, Try.ntmps54
  go_wp2_with fail
  rw [← HV.out]
  refine wp_region_below (by kernel_rfl) (by kernel_rfl) ?_
  repeat (go_big_quiet_step (fail))
  refine wpQuiet_nil ?_
  rintro _ ⟨wq, rfl⟩
  have BQ := Lib.hid wq.h
  generalize wq.W = w2 at *
  clear u0 u1
  have rJ := RJ.out.below BQ.out RJ.out.lt
  have rF := RF.out.below BQ.out RF.out.lt
  have rR := RR.out.below BQ.out RR.out.lt
  have RF2 := Lib.hid rF
  have RR2 := Lib.hid rR
  have j1 := rJ.cell 1
  have j2 := rJ.cell 2
  have j3 := rJ.cell 3
  have j4 := rJ.cell 4
  have c0 := rF.cell 0
  have c1 := rF.cell 1
  have c2 := rF.cell 2
  have c3 := rF.cell 3
  have z0 := rR.cell 0
  have z1 := rR.cell 1
  have z2 := rR.cell 2
  have z3 := rR.cell 3
  have k0 := frozen_of_row _ (w.heap.size + 1) 0 _ _ rF
  have k1 := frozen_of_row _ (w.heap.size + 1) 1 _ _ rF
  have k2 := frozen_of_row _ (w.heap.size + 1) 2 _ _ rF
  have k3 := frozen_of_row _ (w.heap.size + 1) 3 _ _ rF
  have l0 := frozen_of_row _ (w.heap.size + 1 + 1 + 1) 0 _ _ rR
  have l1 := frozen_of_row _ (w.heap.size + 1 + 1 + 1) 1 _ _ rR
  have l2 := frozen_of_row _ (w.heap.size + 1 + 1 + 1) 2 _ _ rR
  have l3 := frozen_of_row _ (w.heap.size + 1 + 1 + 1) 3 _ _ rR
  simp only [List.getElem?_cons_zero, List.getElem?_cons_succ] at j1 j2 j3 j4 c0 c1 c2 c3 z0 z1 z2 z3
  clear rJ rF rR
  go_wp2_with fail
  have hr : Row (((((w2.setCell ⟨w.heap.size + 1, 2, none⟩ (.int .i64 0)).setCell ⟨w.heap.size + 1 + 1 + 1, 0, none⟩ (.int .i64 f0)).setCell ⟨w.heap.size + 1 + 1 + 1, 1, none⟩ (.int .i64 f1)).setCell ⟨w.heap.size + 1 + 1 + 1, 2, none⟩ (.int .i64 0)).setCell ⟨w.heap.size + 1 + 1 + 1, 3, none⟩ (.int .i64 f3)) (w.heap.size + 1 + 1 + 1) 77 [.int .i64 f0, .int .i64 f1, .int .i64 0, .int .i64 f3] := by
    simpa using (((((RR2.out.other (2) (.int .i64 0) (g' := w.heap.size + 1) (by omega)).set 0 (.int .i64 f0)).set 1 (.int .i64 f1)).set 2 (.int .i64 0)).set 3 (.int .i64 f3))
  have v0 := hr.cell 0
  have v1 := hr.cell 1
  have v2 := hr.cell 2
  have v3 := hr.cell 3
  simp only [List.getElem?_cons_zero, List.getElem?_cons_succ] at v0 v1 v2 v3
  refine bodyPost_ret (v := .agg #[.int .i64 f0, .int .i64 f1, .int .i64 0, .int .i64 f3]) (by simp [results, Try.results54, go_sem, v0, v1, v2, v3]) rfl ⟨rfl, ?_⟩
  exact ((((((Below.andThen B0.out BQ.out (Nat.le_refl _)).setCell (p := ⟨w.heap.size + 1, 2, none⟩) (by dsimp only; omega) (.int .i64 0)).setCell (p := ⟨w.heap.size + 1 + 1 + 1, 0, none⟩) (by dsimp only; omega) (.int .i64 f0)).setCell (p := ⟨w.heap.size + 1 + 1 + 1, 1, none⟩) (by dsimp only; omega) (.int .i64 f1)).setCell (p := ⟨w.heap.size + 1 + 1 + 1, 2, none⟩) (by dsimp only; omega) (.int .i64 0)).setCell (p := ⟨w.heap.size + 1 + 1 + 1, 3, none⟩) (by dsimp only; omega) (.int .i64 f3))
set_option maxRecDepth 100000 in
set_option maxHeartbeats 1000000 in
theorem after_2_0l (n p0 p1 p2 p3 f0 f1 f2 f3 : Int) (hf : 0 ≤ f2 ∧ f2 ≤ 12) (ht : 0 ≤ f0 ∧ f0 ≤ p0) (hp : p0 ≤ 12) (hmin : f2 ≤ p0 - f0) (w : World) :
    Calls Try.prog 54 #[.agg #[.int .i64 n, .int .i64 p0, .int .i64 p1, .int .i64 p2, .int .i64 p3], .agg #[.int .i64 f0, .int .i64 f1, .int .i64 f2, .int .i64 f3], .agg #[.int .i64 2, .int .i64 0]] w fun e w' => e = .returned (aggI (afterF [p0, p1, p2, p3] [f0, f1, f2, f3] 2 0)) ∧ Below w.heap.size w w' := by
  obtain ⟨V, hV, rJ, rF, rS, rR, hb, hsz⟩ := after_start w [.int .i64 n, .int .i64 p0, .int .i64 p1, .int .i64 p2, .int .i64 p3] [.int .i64 f0, .int .i64 f1, .int .i64 f2, .int .i64 f3] [.int .i64 2, .int .i64 0] [.int .i64 0, .int .i64 0, .int .i64 0, .int .i64 0]
  have e1 : IntKind.i64.wrap (p0 - f0) = p0 - f0 := i64_of _ (by omega) (by omega)
  have e2 : IntKind.i64.wrap (f2 - f2) = f2 - f2 := i64_of _ (by omega) (by omega)
  have e3 : IntKind.i64.wrap (f0 + f2) = f0 + f2 := i64_of _ (by omega) (by omega)
  have hm : min f2 (p0 - f0) = f2 := by omega
  have FIN : Hid (aggI (afterF [p0, p1, p2, p3] [f0, f1, f2, f3] 2 0) = .agg #[.int .i64 (f0 + f2), .int .i64 f1, .int .i64 0, .int .i64 f3]) := Lib.hid (by simp [afterF, aggI, encI, hm])
  rw [FIN.out]
  have HV := Lib.hid hV
  have RJ := Lib.hid rJ
  have RF := Lib.hid rF
  have RR := Lib.hid rR
  have B0 := Lib.hid hb
  have s0 := rS.cell 0
  have s1 := rS.cell 1
  simp only [List.getElem?_cons_zero, List.getElem?_cons_succ] at s0 s1
  have u0 := Kl.cell rS.lt s0
  have u1 := Kl.cell rS.lt s1
  clear hV rJ rF rS rR hb hsz s0 s1
  go_enter Try.func54, Try.ntmps54
  go_wp2_with fail
  rw [← HV.out]
  refine wp_region_below (by kernel_rfl) (by kernel_rfl) ?_
  repeat (go_big_quiet_step (fail))
  refine wpQuiet_nil ?_
  rintro _ ⟨wq, rfl⟩
  have BQ := Lib.hid wq.h
  generalize wq.W = w2 at *
  clear u0 u1
  have q1 := (RF.out.below BQ.out RF.out.lt).cell 2
  have q2 := (RF.out.below BQ.out RF.out.lt).cell 0
  have q3 := (RJ.out.below BQ.out RJ.out.lt).cell 1
  simp only [List.getElem?_cons_zero, List.getElem?_cons_succ] at q1 q2 q3
  have u0 := Kl.cell (RF.out.below BQ.out RF.out.lt).lt q1
  have u1 := Kl.cell (RF.out.below BQ.out RF.out.lt).lt q2
  have u2 := Kl.cell (RJ.out.below BQ.out RJ.out.lt).lt q3
  clear q1 q2 q3
  go_wp2_with fail
  refine wp_region_below (by kernel_rfl) (by kernel_rfl) ?_
  repeat (go_big_quiet_step (fail))
  refine wpQuiet_nil ?_
  rintro _ ⟨wq, rfl⟩
  have BQ := Lib.hid (Below.andThen BQ.out wq.h (by have := BQ.out.size; have := RR.out.lt; omega))
  generalize wq.W = w2 at *
  clear u0 u1 u2
  have rJ := RJ.out.below BQ.out RJ.out.lt
  have rF := RF.out.below BQ.out RF.out.lt
  have rR := RR.out.below BQ.out RR.out.lt
  have RF2 := Lib.hid rF
  have RR2 := Lib.hid rR
  have j1 := rJ.cell 1
  have j2 := rJ.cell 2
  have j3 := rJ.cell 3
  have j4 := rJ.cell 4
  have c0 := rF.cell 0
  have c1 := rF.cell 1
  have c2 := rF.cell 2
  have c3 := rF.cell 3
  have z0 := rR.cell 0
  have z1 := rR.cell 1
  have z2 := rR.cell 2
  have z3 := rR.cell 3
  have k0 := frozen_of_row _ (w.heap.size + 1) 0 _ _ rF
  have k1 := frozen_of_row _ (w.heap.size + 1) 1 _ _ rF
  have k2 := frozen_of_row _ (w.heap.size + 1) 2 _ _ rF
  have k3 := frozen_of_row _ (w.heap.size + 1) 3 _ _ rF
  have l0 := frozen_of_row _ (w.heap.size + 1 + 1 + 1) 0 _ _ rR
  have l1 := frozen_of_row _ (w.heap.size + 1 + 1 + 1) 1 _ _ rR
  have l2 := frozen_of_row _ (w.heap.size + 1 + 1 + 1) 2 _ _ rR
  have l3 := frozen_of_row _ (w.heap.size + 1 + 1 + 1) 3 _ _ rR
  simp only [List.getElem?_cons_zero, List.getElem?_cons_succ] at j1 j2 j3 j4 c0 c1 c2 c3 z0 z1 z2 z3
  clear rJ rF rR
  go_wp2_with fail
  all_goals first | (exfalso; omega) | skip
  have hr : Row ((((((w2.setCell ⟨w.heap.size + 1, 2, none⟩ (.int .i64 0)).setCell ⟨w.heap.size + 1, 0, none⟩ (.int .i64 (f0 + f2))).setCell ⟨w.heap.size + 1 + 1 + 1, 0, none⟩ (.int .i64 (f0 + f2))).setCell ⟨w.heap.size + 1 + 1 + 1, 1, none⟩ (.int .i64 f1)).setCell ⟨w.heap.size + 1 + 1 + 1, 2, none⟩ (.int .i64 0)).setCell ⟨w.heap.size + 1 + 1 + 1, 3, none⟩ (.int .i64 f3)) (w.heap.size + 1 + 1 + 1) 77 [.int .i64 (f0 + f2), .int .i64 f1, .int .i64 0, .int .i64 f3] := by
    simpa using ((((((RR2.out.other (2) (.int .i64 0) (g' := w.heap.size + 1) (by omega)).other (0) (.int .i64 (f0 + f2)) (g' := w.heap.size + 1) (by omega)).set 0 (.int .i64 (f0 + f2))).set 1 (.int .i64 f1)).set 2 (.int .i64 0)).set 3 (.int .i64 f3))
  have v0 := hr.cell 0
  have v1 := hr.cell 1
  have v2 := hr.cell 2
  have v3 := hr.cell 3
  simp only [List.getElem?_cons_zero, List.getElem?_cons_succ] at v0 v1 v2 v3
  refine bodyPost_ret (v := .agg #[.int .i64 (f0 + f2), .int .i64 f1, .int .i64 0, .int .i64 f3]) (by simp [results, Try.results54, go_sem, v0, v1, v2, v3]) rfl ⟨rfl, ?_⟩
  exact (((((((Below.andThen B0.out BQ.out (Nat.le_refl _)).setCell (p := ⟨w.heap.size + 1, 2, none⟩) (by dsimp only; omega) (.int .i64 0)).setCell (p := ⟨w.heap.size + 1, 0, none⟩) (by dsimp only; omega) (.int .i64 (f0 + f2))).setCell (p := ⟨w.heap.size + 1 + 1 + 1, 0, none⟩) (by dsimp only; omega) (.int .i64 (f0 + f2))).setCell (p := ⟨w.heap.size + 1 + 1 + 1, 1, none⟩) (by dsimp only; omega) (.int .i64 f1)).setCell (p := ⟨w.heap.size + 1 + 1 + 1, 2, none⟩) (by dsimp only; omega) (.int .i64 0)).setCell (p := ⟨w.heap.size + 1 + 1 + 1, 3, none⟩) (by dsimp only; omega) (.int .i64 f3))
set_option maxRecDepth 100000 in
set_option maxHeartbeats 1000000 in
theorem after_2_0h (n p0 p1 p2 p3 f0 f1 f2 f3 : Int) (hf : 0 ≤ f2 ∧ f2 ≤ 12) (ht : 0 ≤ f0 ∧ f0 ≤ p0) (hp : p0 ≤ 12) (hmin : p0 - f0 < f2) (w : World) :
    Calls Try.prog 54 #[.agg #[.int .i64 n, .int .i64 p0, .int .i64 p1, .int .i64 p2, .int .i64 p3], .agg #[.int .i64 f0, .int .i64 f1, .int .i64 f2, .int .i64 f3], .agg #[.int .i64 2, .int .i64 0]] w fun e w' => e = .returned (aggI (afterF [p0, p1, p2, p3] [f0, f1, f2, f3] 2 0)) ∧ Below w.heap.size w w' := by
  obtain ⟨V, hV, rJ, rF, rS, rR, hb, hsz⟩ := after_start w [.int .i64 n, .int .i64 p0, .int .i64 p1, .int .i64 p2, .int .i64 p3] [.int .i64 f0, .int .i64 f1, .int .i64 f2, .int .i64 f3] [.int .i64 2, .int .i64 0] [.int .i64 0, .int .i64 0, .int .i64 0, .int .i64 0]
  have e1 : IntKind.i64.wrap (p0 - f0) = p0 - f0 := i64_of _ (by omega) (by omega)
  have e2 : IntKind.i64.wrap (f2 - (p0 - f0)) = f2 - (p0 - f0) := i64_of _ (by omega) (by omega)
  have e3 : IntKind.i64.wrap (f0 + (p0 - f0)) = f0 + (p0 - f0) := i64_of _ (by omega) (by omega)
  have hm : min f2 (p0 - f0) = (p0 - f0) := by omega
  have FIN : Hid (aggI (afterF [p0, p1, p2, p3] [f0, f1, f2, f3] 2 0) = .agg #[.int .i64 (f0 + (p0 - f0)), .int .i64 f1, .int .i64 (f2 - (p0 - f0)), .int .i64 f3]) := Lib.hid (by simp [afterF, aggI, encI, hm])
  rw [FIN.out]
  have HV := Lib.hid hV
  have RJ := Lib.hid rJ
  have RF := Lib.hid rF
  have RR := Lib.hid rR
  have B0 := Lib.hid hb
  have s0 := rS.cell 0
  have s1 := rS.cell 1
  simp only [List.getElem?_cons_zero, List.getElem?_cons_succ] at s0 s1
  have u0 := Kl.cell rS.lt s0
  have u1 := Kl.cell rS.lt s1
  clear hV rJ rF rS rR hb hsz s0 s1
  go_enter Try.func54, Try.ntmps54
  go_wp2_with fail
  rw [← HV.out]
  refine wp_region_below (by kernel_rfl) (by kernel_rfl) ?_
  repeat (go_big_quiet_step (fail))
  refine wpQuiet_nil ?_
  rintro _ ⟨wq, rfl⟩
  have BQ := Lib.hid wq.h
  generalize wq.W = w2 at *
  clear u0 u1
  have q1 := (RF.out.below BQ.out RF.out.lt).cell 2
  have q2 := (RF.out.below BQ.out RF.out.lt).cell 0
  have q3 := (RJ.out.below BQ.out RJ.out.lt).cell 1
  simp only [List.getElem?_cons_zero, List.getElem?_cons_succ] at q1 q2 q3
  have u0 := Kl.cell (RF.out.below BQ.out RF.out.lt).lt q1
  have u1 := Kl.cell (RF.out.below BQ.out RF.out.lt).lt q2
  have u2 := Kl.cell (RJ.out.below BQ.out RJ.out.lt).lt q3
  clear q1 q2 q3
  go_wp2_with fail
  refine wp_region_below (by kernel_rfl) (by kernel_rfl) ?_
  repeat (go_big_quiet_step (fail))
  refine wpQuiet_nil ?_
  rintro _ ⟨wq, rfl⟩
  have BQ := Lib.hid (Below.andThen BQ.out wq.h (by have := BQ.out.size; have := RR.out.lt; omega))
  generalize wq.W = w2 at *
  clear u0 u1 u2
  have rJ := RJ.out.below BQ.out RJ.out.lt
  have rF := RF.out.below BQ.out RF.out.lt
  have rR := RR.out.below BQ.out RR.out.lt
  have RF2 := Lib.hid rF
  have RR2 := Lib.hid rR
  have j1 := rJ.cell 1
  have j2 := rJ.cell 2
  have j3 := rJ.cell 3
  have j4 := rJ.cell 4
  have c0 := rF.cell 0
  have c1 := rF.cell 1
  have c2 := rF.cell 2
  have c3 := rF.cell 3
  have z0 := rR.cell 0
  have z1 := rR.cell 1
  have z2 := rR.cell 2
  have z3 := rR.cell 3
  have k0 := frozen_of_row _ (w.heap.size + 1) 0 _ _ rF
  have k1 := frozen_of_row _ (w.heap.size + 1) 1 _ _ rF
  have k2 := frozen_of_row _ (w.heap.size + 1) 2 _ _ rF
  have k3 := frozen_of_row _ (w.heap.size + 1) 3 _ _ rF
  have l0 := frozen_of_row _ (w.heap.size + 1 + 1 + 1) 0 _ _ rR
  have l1 := frozen_of_row _ (w.heap.size + 1 + 1 + 1) 1 _ _ rR
  have l2 := frozen_of_row _ (w.heap.size + 1 + 1 + 1) 2 _ _ rR
  have l3 := frozen_of_row _ (w.heap.size + 1 + 1 + 1) 3 _ _ rR
  simp only [List.getElem?_cons_zero, List.getElem?_cons_succ] at j1 j2 j3 j4 c0 c1 c2 c3 z0 z1 z2 z3
  clear rJ rF rR
  go_wp2_with fail
  all_goals first | (exfalso; omega) | skip
  have hr : Row ((((((w2.setCell ⟨w.heap.size + 1, 2, none⟩ (.int .i64 (f2 - (p0 - f0)))).setCell ⟨w.heap.size + 1, 0, none⟩ (.int .i64 (f0 + (p0 - f0)))).setCell ⟨w.heap.size + 1 + 1 + 1, 0, none⟩ (.int .i64 (f0 + (p0 - f0)))).setCell ⟨w.heap.size + 1 + 1 + 1, 1, none⟩ (.int .i64 f1)).setCell ⟨w.heap.size + 1 + 1 + 1, 2, none⟩ (.int .i64 (f2 - (p0 - f0)))).setCell ⟨w.heap.size + 1 + 1 + 1, 3, none⟩ (.int .i64 f3)) (w.heap.size + 1 + 1 + 1) 77 [.int .i64 (f0 + (p0 - f0)), .int .i64 f1, .int .i64 (f2 - (p0 - f0)), .int .i64 f3] := by
    simpa using ((((((RR2.out.other (2) (.int .i64 (f2 - (p0 - f0))) (g' := w.heap.size + 1) (by omega)).other (0) (.int .i64 (f0 + (p0 - f0))) (g' := w.heap.size + 1) (by omega)).set 0 (.int .i64 (f0 + (p0 - f0)))).set 1 (.int .i64 f1)).set 2 (.int .i64 (f2 - (p0 - f0)))).set 3 (.int .i64 f3))
  have v0 := hr.cell 0
  have v1 := hr.cell 1
  have v2 := hr.cell 2
  have v3 := hr.cell 3
  simp only [List.getElem?_cons_zero, List.getElem?_cons_succ] at v0 v1 v2 v3
  refine bodyPost_ret (v := .agg #[.int .i64 (f0 + (p0 - f0)), .int .i64 f1, .int .i64 (f2 - (p0 - f0)), .int .i64 f3]) (by simp [results, Try.results54, go_sem, v0, v1, v2, v3]) rfl ⟨rfl, ?_⟩
  exact (((((((Below.andThen B0.out BQ.out (Nat.le_refl _)).setCell (p := ⟨w.heap.size + 1, 2, none⟩) (by dsimp only; omega) (.int .i64 (f2 - (p0 - f0)))).setCell (p := ⟨w.heap.size + 1, 0, none⟩) (by dsimp only; omega) (.int .i64 (f0 + (p0 - f0)))).setCell (p := ⟨w.heap.size + 1 + 1 + 1, 0, none⟩) (by dsimp only; omega) (.int .i64 (f0 + (p0 - f0)))).setCell (p := ⟨w.heap.size + 1 + 1 + 1, 1, none⟩) (by dsimp only; omega) (.int .i64 f1)).setCell (p := ⟨w.heap.size + 1 + 1 + 1, 2, none⟩) (by dsimp only; omega) (.int .i64 (f2 - (p0 - f0)))).setCell (p := ⟨w.heap.size + 1 + 1 + 1, 3, none⟩) (by dsimp only; omega) (.int .i64 f3))
set_option maxRecDepth 100000 in
set_option maxHeartbeats 1000000 in
theorem after_2_1l (n p0 p1 p2 p3 f0 f1 f2 f3 : Int) (hf : 0 ≤ f2 ∧ f2 ≤ 12) (ht : 0 ≤ f1 ∧ f1 ≤ p1) (hp : p1 ≤ 12) (hmin : f2 ≤ p1 - f1) (w : World) :
    Calls Try.prog 54 #[.agg #[.int .i64 n, .int .i64 p0, .int .i64 p1, .int .i64 p2, .int .i64 p3], .agg #[.int .i64 f0, .int .i64 f1, .int .i64 f2, .int .i64 f3], .agg #[.int .i64 2, .int .i64 1]] w fun e w' => e = .returned (aggI (afterF [p0, p1, p2, p3] [f0, f1, f2, f3] 2 1)) ∧ Below w.heap.size w w' := by
  obtain ⟨V, hV, rJ, rF, rS, rR, hb, hsz⟩ := after_start w [.int .i64 n, .int .i64 p0, .int .i64 p1, .int .i64 p2, .int .i64 p3] [.int .i64 f0, .int .i64 f1, .int .i64 f2, .int .i64 f3] [.int .i64 2, .int .i64 1] [.int .i64 0, .int .i64 0, .int .i64 0, .int .i64 0]
  have e1 : IntKind.i64.wrap (p1 - f1) = p1 - f1 := i64_of _ (by omega) (by omega)
  have e2 : IntKind.i64.wrap (f2 - f2) = f2 - f2 := i64_of _ (by omega) (by omega)
  have e3 : IntKind.i64.wrap (f1 + f2) = f1 + f2 := i64_of _ (by omega) (by omega)
  have hm : min f2 (p1 - f1) = f2 := by omega
  have FIN : Hid (aggI (afterF [p0, p1, p2, p3] [f0, f1, f2, f3] 2 1) = .agg #[.int .i64 f0, .int .i64 (f1 + f2), .int .i64 0, .int .i64 f3]) := Lib.hid (by simp [afterF, aggI, encI, hm])
  rw [FIN.out]
  have HV := Lib.hid hV
  have RJ := Lib.hid rJ
  have RF := Lib.hid rF
  have RR := Lib.hid rR
  have B0 := Lib.hid hb
  have s0 := rS.cell 0
  have s1 := rS.cell 1
  simp only [List.getElem?_cons_zero, List.getElem?_cons_succ] at s0 s1
  have u0 := Kl.cell rS.lt s0
  have u1 := Kl.cell rS.lt s1
  clear hV rJ rF rS rR hb hsz s0 s1
  go_enter Try.func54, Try.ntmps54
  go_wp2_with fail
  rw [← HV.out]
  refine wp_region_below (by kernel_rfl) (by kernel_rfl) ?_
  repeat (go_big_quiet_step (fail))
  refine wpQuiet_nil ?_
  rintro _ ⟨wq, rfl⟩
  have BQ := Lib.hid wq.h
  generalize wq.W = w2 at *
  clear u0 u1
  have q1 := (RF.out.below BQ.out RF.out.lt).cell 2
  have q2 := (RF.out.below BQ.out RF.out.lt).cell 1
  have q3 := (RJ.out.below BQ.out RJ.out.lt).cell 2
  simp only [List.getElem?_cons_zero, List.getElem?_cons_succ] at q1 q2 q3
  have u0 := Kl.cell (RF.out.below BQ.out RF.out.lt).lt q1
  have u1 := Kl.cell (RF.out.below BQ.out RF.out.lt).lt q2
  have u2 := Kl.cell (RJ.out.below BQ.out RJ.out.lt).lt q3
  clear q1 q2 q3
  go_wp2_with fail
  refine wp_region_below (by kernel_rfl) (by kernel_rfl) ?_
  repeat (go_big_quiet_step (fail))
  refine wpQuiet_nil ?_
  rintro _ ⟨wq, rfl⟩
  have BQ := Lib.hid (Below.andThen BQ.out wq.h (by have := BQ.out.size; have := RR.out.lt; omega))
  generalize wq.W = w2 at *
  clear u0 u1 u2
  have rJ := RJ.out.below BQ.out RJ.out.lt
  have rF := RF.out.below BQ.out RF.out.lt
  have rR := RR.out.below BQ.out RR.out.lt
  have RF2 := Lib.hid rF
  have RR2 := Lib.hid rR
  have j1 := rJ.cell 1
  have j2 := rJ.cell 2
  have j3 := rJ.cell 3
  have j4 := rJ.cell 4
  have c0 := rF.cell 0
  have c1 := rF.cell 1
  have c2 := rF.cell 2
  have c3 := rF.cell 3
  have z0 := rR.cell 0
  have z1 := rR.cell 1
  have z2 := rR.cell 2
  have z3 := rR.cell 3
  have k0 := frozen_of_row _ (w.heap.size + 1) 0 _ _ rF
  have k1 := frozen_of_row _ (w.heap.size + 1) 1 _ _ rF
  have k2 := frozen_of_row _ (w.heap.size + 1) 2 _ _ rF
  have k3 := frozen_of_row _ (w.heap.size + 1) 3 _ _ rF
  have l0 := frozen_of_row _ (w.heap.size + 1 + 1 + 1) 0 _ _ rR
  have l1 := frozen_of_row _ (w.heap.size + 1 + 1 + 1) 1 _ _ rR
  have l2 := frozen_of_row _ (w.heap.size + 1 + 1 + 1) 2 _ _ rR
  have l3 := frozen_of_row _ (w.heap.size + 1 + 1 + 1) 3 _ _ rR
  simp only [List.getElem?_cons_zero, List.getElem?_cons_succ] at j1 j2 j3 j4 c0 c1 c2 c3 z0 z1 z2 z3
  clear rJ rF rR
  go_wp2_with fail
  all_goals first | (exfalso; omega) | skip
  have hr : Row ((((((w2.setCell ⟨w.heap.size + 1, 2, none⟩ (.int .i64 0)).setCell ⟨w.heap.size + 1, 1, none⟩ (.int .i64 (f1 + f2))).setCell ⟨w.heap.size + 1 + 1 + 1, 0, none⟩ (.int .i64 f0)).setCell ⟨w.heap.size + 1 + 1 + 1, 1, none⟩ (.int .i64 (f1 + f2))).setCell ⟨w.heap.size + 1 + 1 + 1, 2, none⟩ (.int .i64 0)).setCell ⟨w.heap.size + 1 + 1 + 1, 3, none⟩ (.int .i64 f3)) (w.heap.size + 1 + 1 + 1) 77 [.int .i64 f0, .int .i64 (f1 + f2), .int .i64 0, .int .i64 f3] := by
    simpa using ((((((RR2.out.other (2) (.int .i64 0) (g' := w.heap.size + 1) (by omega)).other (1) (.int .i64 (f1 + f2)) (g' := w.heap.size + 1) (by omega)).set 0 (.int .i64 f0)).set 1 (.int .i64 (f1 + f2))).set 2 (.int .i64 0)).set 3 (.int .i64 f3))
  have v0 := hr.cell 0
  have v1 := hr.cell 1
  have v2 := hr.cell 2
  have v3 := hr.cell 3
  simp only [List.getElem?_cons_zero, List.getElem?_cons_succ] at v0 v1 v2 v3
  refine bodyPost_ret (v := .agg #[.int .i64 f0, .int .i64 (f1 + f2), .int .i64 0, .int .i64 f3]) (by simp [results, Try.results54, go_sem, v0, v1, v2, v3]) rfl ⟨rfl, ?_⟩
  exact (((((((Below.andThen B0.out BQ.out (Nat.le_refl _)).setCell (p := ⟨w.heap.size + 1, 2, none⟩) (by dsimp only; omega) (.int .i64 0)).setCell (p := ⟨w.heap.size + 1, 1, none⟩) (by dsimp only; omega) (.int .i64 (f1 + f2))).setCell (p := ⟨w.heap.size + 1 + 1 + 1, 0, none⟩) (by dsimp only; omega) (.int .i64 f0)).setCell (p := ⟨w.heap.size + 1 + 1 + 1, 1, none⟩) (by dsimp only; omega) (.int .i64 (f1 + f2))).setCell (p := ⟨w.heap.size + 1 + 1 + 1, 2, none⟩) (by dsimp only; omega) (.int .i64 0)).setCell (p := ⟨w.heap.size + 1 + 1 + 1, 3, none⟩) (by dsimp only; omega) (.int .i64 f3))
set_option maxRecDepth 100000 in
set_option maxHeartbeats 1000000 in
theorem after_2_1h (n p0 p1 p2 p3 f0 f1 f2 f3 : Int) (hf : 0 ≤ f2 ∧ f2 ≤ 12) (ht : 0 ≤ f1 ∧ f1 ≤ p1) (hp : p1 ≤ 12) (hmin : p1 - f1 < f2) (w : World) :
    Calls Try.prog 54 #[.agg #[.int .i64 n, .int .i64 p0, .int .i64 p1, .int .i64 p2, .int .i64 p3], .agg #[.int .i64 f0, .int .i64 f1, .int .i64 f2, .int .i64 f3], .agg #[.int .i64 2, .int .i64 1]] w fun e w' => e = .returned (aggI (afterF [p0, p1, p2, p3] [f0, f1, f2, f3] 2 1)) ∧ Below w.heap.size w w' := by
  obtain ⟨V, hV, rJ, rF, rS, rR, hb, hsz⟩ := after_start w [.int .i64 n, .int .i64 p0, .int .i64 p1, .int .i64 p2, .int .i64 p3] [.int .i64 f0, .int .i64 f1, .int .i64 f2, .int .i64 f3] [.int .i64 2, .int .i64 1] [.int .i64 0, .int .i64 0, .int .i64 0, .int .i64 0]
  have e1 : IntKind.i64.wrap (p1 - f1) = p1 - f1 := i64_of _ (by omega) (by omega)
  have e2 : IntKind.i64.wrap (f2 - (p1 - f1)) = f2 - (p1 - f1) := i64_of _ (by omega) (by omega)
  have e3 : IntKind.i64.wrap (f1 + (p1 - f1)) = f1 + (p1 - f1) := i64_of _ (by omega) (by omega)
  have hm : min f2 (p1 - f1) = (p1 - f1) := by omega
  have FIN : Hid (aggI (afterF [p0, p1, p2, p3] [f0, f1, f2, f3] 2 1) = .agg #[.int .i64 f0, .int .i64 (f1 + (p1 - f1)), .int .i64 (f2 - (p1 - f1)), .int .i64 f3]) := Lib.hid (by simp [afterF, aggI, encI, hm])
  rw [FIN.out]
  have HV := Lib.hid hV
  have RJ := Lib.hid rJ
  have RF := Lib.hid rF
  have RR := Lib.hid rR
  have B0 := Lib.hid hb
  have s0 := rS.cell 0
  have s1 := rS.cell 1
  simp only [List.getElem?_cons_zero, List.getElem?_cons_succ] at s0 s1
  have u0 := Kl.cell rS.lt s0
  have u1 := Kl.cell rS.lt s1
  clear hV rJ rF rS rR hb hsz s0 s1
  go_enter Try.func54, Try.ntmps54
  go_wp2_with fail
  rw [← HV.out]
  refine wp_region_below (by kernel_rfl) (by kernel_rfl) ?_
  repeat (go_big_quiet_step (fail))
  refine wpQuiet_nil ?_
  rintro _ ⟨wq, rfl⟩
  have BQ := Lib.hid wq.h
  generalize wq.W = w2 at *
  clear u0 u1
  have q1 := (RF.out.below BQ.out RF.out.lt).cell 2
  have q2 := (RF.out.below BQ.out RF.out.lt).cell 1
  have q3 := (RJ.out.below BQ.out RJ.out.lt).cell 2
  simp only [List.getElem?_cons_zero, List.getElem?_cons_succ] at q1 q2 q3
  have u0 := Kl.cell (RF.out.below BQ.out RF.out.lt).lt q1
  have u1 := Kl.cell (RF.out.below BQ.out RF.out.lt).lt q2
  have u2 := Kl.cell (RJ.out.below BQ.out RJ.out.lt).lt q3
  clear q1 q2 q3
  go_wp2_with fail
  refine wp_region_below (by kernel_rfl) (by kernel_rfl) ?_
  repeat (go_big_quiet_step (fail))
  refine wpQuiet_nil ?_
  rintro _ ⟨wq, rfl⟩
  have BQ := Lib.hid (Below.andThen BQ.out wq.h (by have := BQ.out.size; have := RR.out.lt; omega))
  generalize wq.W = w2 at *
  clear u0 u1 u2
  have rJ := RJ.out.below BQ.out RJ.out.lt
  have rF := RF.out.below BQ.out RF.out.lt
  have rR := RR.out.below BQ.out RR.out.lt
  have RF2 := Lib.hid rF
  have RR2 := Lib.hid rR
  have j1 := rJ.cell 1
  have j2 := rJ.cell 2
  have j3 := rJ.cell 3
  have j4 := rJ.cell 4
  have c0 := rF.cell 0
  have c1 := rF.cell 1
  have c2 := rF.cell 2
  have c3 := rF.cell 3
  have z0 := rR.cell 0
  have z1 := rR.cell 1
  have z2 := rR.cell 2
  have z3 := rR.cell 3
  have k0 := frozen_of_row _ (w.heap.size + 1) 0 _ _ rF
  have k1 := frozen_of_row _ (w.heap.size + 1) 1 _ _ rF
  have k2 := frozen_of_row _ (w.heap.size + 1) 2 _ _ rF
  have k3 := frozen_of_row _ (w.heap.size + 1) 3 _ _ rF
  have l0 := frozen_of_row _ (w.heap.size + 1 + 1 + 1) 0 _ _ rR
  have l1 := frozen_of_row _ (w.heap.size + 1 + 1 + 1) 1 _ _ rR
  have l2 := frozen_of_row _ (w.heap.size + 1 + 1 + 1) 2 _ _ rR
  have l3 := frozen_of_row _ (w.heap.size + 1 + 1 + 1) 3 _ _ rR
  simp only [List.getElem?_cons_zero, List.getElem?_cons_succ] at j1 j2 j3 j4 c0 c1 c2 c3 z0 z1 z2 z3
  clear rJ rF rR
  go_wp2_with fail
  all_goals first | (exfalso; omega) | skip
  have hr : Row ((((((w2.setCell ⟨w.heap.size + 1, 2, none⟩ (.int .i64 (f2 - (p1 - f1)))).setCell ⟨w.heap.size + 1, 1, none⟩ (.int .i64 (f1 + (p1 - f1)))).setCell ⟨w.heap.size + 1 + 1 + 1, 0, none⟩ (.int .i64 f0)).setCell ⟨w.heap.size + 1 + 1 + 1, 1, none⟩ (.int .i64 (f1 + (p1 - f1)))).setCell ⟨w.heap.size + 1 + 1 + 1, 2, none⟩ (.int .i64 (f2 - (p1 - f1)))).setCell ⟨w.heap.size + 1 + 1 + 1, 3, none⟩ (.int .i64 f3)) (w.heap.size + 1 + 1 + 1) 77 [.int .i64 f0, .int .i64 (f1 + (p1 - f1)), .int .i64 (f2 - (p1 - f1)), .int .i64 f3] := by
    simpa using ((((((RR2.out.other (2) (.int .i64 (f2 - (p1 - f1))) (g' := w.heap.size + 1) (by omega)).other (1) (.int .i64 (f1 + (p1 - f1))) (g' := w.heap.size + 1) (by omega)).set 0 (.int .i64 f0)).set 1 (.int .i64 (f1 + (p1 - f1)))).set 2 (.int .i64 (f2 - (p1 - f1)))).set 3 (.int .i64 f3))
  have v0 := hr.cell 0
  have v1 := hr.cell 1
  have v2 := hr.cell 2
  have v3 := hr.cell 3
  simp only [List.getElem?_cons_zero, List.getElem?_cons_succ] at v0 v1 v2 v3
  refine bodyPost_ret (v := .agg #[.int .i64 f0, .int .i64 (f1 + (p1 - f1)), .int .i64 (f2 - (p1 - f1)), .int .i64 f3]) (by simp [results, Try.results54, go_sem, v0, v1, v2, v3]) rfl ⟨rfl, ?_⟩
  exact (((((((Below.andThen B0.out BQ.out (Nat.le_refl _)).setCell (p := ⟨w.heap.size + 1, 2, none⟩) (by dsimp only; omega) (.int .i64 (f2 - (p1 - f1)))).setCell (p := ⟨w.heap.size + 1, 1, none⟩) (by dsimp only; omega) (.int .i64 (f1 + (p1 - f1)))).setCell (p := ⟨w.heap.size + 1 + 1 + 1, 0, none⟩) (by dsimp only; omega) (.int .i64 f0)).setCell (p := ⟨w.heap.size + 1 + 1 + 1, 1, none⟩) (by dsimp only; omega) (.int .i64 (f1 + (p1 - f1)))).setCell (p := ⟨w.heap.size + 1 + 1 + 1, 2, none⟩) (by dsimp only; omega) (.int .i64 (f2 - (p1 - f1)))).setCell (p := ⟨w.heap.size + 1 + 1 + 1, 3, none⟩) (by dsimp only; omega) (.int .i64 f3))
set_option maxRecDepth 100000 in
set_option maxHeartbeats 1000000 in
theorem after_2_3l (n p0 p1 p2 p3 f0 f1 f2 f3 : Int) (hf : 0 ≤ f2 ∧ f2 ≤ 12) (ht : 0 ≤ f3 ∧ f3 ≤ p3) (hp : p3 ≤ 12) (hmin : f2 ≤ p3 - f3) (w : World) :
    Calls Try.prog 54 #[.agg #[.int .i64 n, .int .i64 p0, .int .i64 p1, .int .i64 p2, .int .i64 p3], .agg #[.int .i64 f0, .int .i64 f1, .int .i64 f2, .int .i64 f3], .agg #[.int .i64 2, .int .i64 3]] w fun e w' => e = .returned (aggI (afterF [p0, p1, p2, p3] [f0, f1, f2, f3] 2 3)) ∧ Below w.heap.size w w' := by
  obtain ⟨V, hV, rJ, rF, rS, rR, hb, hsz⟩ := after_start w [.int .i64 n, .int .i64 p0, .int .i64 p1, .int .i64 p2, .int .i64 p3] [.int .i64 f0, .int .i64 f1, .int .i64 f2, .int .i64 f3] [.int .i64 2, .int .i64 3] [.int .i64 0, .int .i64 0, .int .i64 0, .int .i64 0]
  have e1 : IntKind.i64.wrap (p3 - f3) = p3 - f3 := i64_of _ (by omega) (by omega)
  have e2 : IntKind.i64.wrap (f2 - f2) = f2 - f2 := i64_of _ (by omega) (by omega)
  have e3 : IntKind.i64.wrap (f3 + f2) = f3 + f2 := i64_of _ (by omega) (by omega)
  have hm : min f2 (p3 - f3) = f2 := by omega
  have FIN : Hid (aggI (afterF [p0, p1, p2, p3] [f0, f1, f2, f3] 2 3) = .agg #[.int .i64 f0, .int .i64 f1, .int .i64 0, .int .i64 (f3 + f2)]) := Lib.hid (by simp [afterF, aggI, encI, hm])
  rw [FIN.out]
  have HV := Lib.hid hV
  have RJ := Lib.hid rJ
  have RF := Lib.hid rF
  have RR := Lib.hid rR
  have B0 := Lib.hid hb
  have s0 := rS.cell 0
  have s1 := rS.cell 1
  simp only [List.getElem?_cons_zero, List.getElem?_cons_succ] at s0 s1
  have u0 := Kl.cell rS.lt s0
  have u1 := Kl.cell rS.lt s1
  clear hV rJ rF rS rR hb hsz s0 s1
  go_enter Try.func54, Try.ntmps54
  go_wp2_with fail
  rw [← HV.out]
  refine wp_region_below (by kernel_rfl) (by kernel_rfl) ?_
  repeat (go_big_quiet_step (fail))
  refine wpQuiet_nil ?_
  rintro _ ⟨wq, rfl⟩
  have BQ := Lib.hid wq.h
  generalize wq.W = w2 at *
  clear u0 u1
  have q1 := (RF.out.below BQ.out RF.out.lt).cell 2
  have q2 := (RF.out.below BQ.out RF.out.lt).cell 3
  have q3 := (RJ.out.below BQ.out RJ.out.lt).cell 4
  simp only [List.getElem?_cons_zero, List.getElem?_cons_succ] at q1 q2 q3
  have u0 := Kl.cell (RF.out.below BQ.out RF.out.lt).lt q1
  have u1 := Kl.cell (RF.out.below BQ.out RF.out.lt).lt q2
  have u2 := Kl.cell (RJ.out.below BQ.out RJ.out.lt).lt q3
  clear q1 q2 q3
  go_wp2_with fail
  refine wp_region_below (by kernel_rfl) (by kernel_rfl) ?_
  repeat (go_big_quiet_step (fail))
  refine wpQuiet_nil ?_
  rintro _ ⟨wq, rfl⟩
  have BQ := Lib.hid (Below.andThen BQ.out wq.h (by have := BQ.out.size; have := RR.out.lt; omega))
  generalize wq.W = w2 at *
  clear u0 u1 u2
  have rJ := RJ.out.below BQ.out RJ.out.lt
  have rF := RF.out.below BQ.out RF.out.lt
  have rR := RR.out.below BQ.out RR.out.lt
  have RF2 := Lib.hid rF
  have RR2 := Lib.hid rR
  have j1 := rJ.cell 1
  have j2 := rJ.cell 2
  have j3 := rJ.cell 3
  have j4 := rJ.cell 4
  have c0 := rF.cell 0
  have c1 := rF.cell 1
  have c2 := rF.cell 2
  have c3 := rF.cell 3
  have z0 := rR.cell 0
  have z1 := rR.cell 1
  have z2 := rR.cell 2
  have z3 := rR.cell 3
  have k0 := frozen_of_row _ (w.heap.size + 1) 0 _ _ rF
  have k1 := frozen_of_row _ (w.heap.size + 1) 1 _ _ rF
  have k2 := frozen_of_row _ (w.heap.size + 1) 2 _ _ rF
  have k3 := frozen_of_row _ (w.heap.size + 1) 3 _ _ rF
  have l0 := frozen_of_row _ (w.heap.size + 1 + 1 + 1) 0 _ _ rR
  have l1 := frozen_of_row _ (w.heap.size + 1 + 1 + 1) 1 _ _ rR
  have l2 := frozen_of_row _ (w.heap.size + 1 + 1 + 1) 2 _ _ rR
  have l3 := frozen_of_row _ (w.heap.size + 1 + 1 + 1) 3 _ _ rR
  simp only [List.getElem?_cons_zero, List.getElem?_cons_succ] at j1 j2 j3 j4 c0 c1 c2 c3 z0 z1 z2 z3
  clear rJ rF rR
  go_wp2_with fail
  all_goals first | (exfalso; omega) | skip
  have hr : Row ((((((w2.setCell ⟨w.heap.size + 1, 2, none⟩ (.int .i64 0)).setCell ⟨w.heap.size + 1, 3, none⟩ (.int .i64 (f3 + f2))).setCell ⟨w.heap.size + 1 + 1 + 1, 0, none⟩ (.int .i64 f0)).setCell ⟨w.heap.size + 1 + 1 + 1, 1, none⟩ (.int .i64 f1)).setCell ⟨w.heap.size + 1 + 1 + 1, 2, none⟩ (.int .i64 0)).setCell ⟨w.heap.size + 1 + 1 + 1, 3, none⟩ (.int .i64 (f3 + f2))) (w.heap.size + 1 + 1 + 1) 77 [.int .i64 f0, .int .i64 f1, .int .i64 0, .int .i64 (f3 + f2)] := by
    simpa using ((((((RR2.out.other (2) (.int .i64 0) (g' := w.heap.size + 1) (by omega)).other (3) (.int .i64 (f3 + f2)) (g' := w.heap.size + 1) (by omega)).set 0 (.int .i64 f0)).set 1 (.int .i64 f1)).set 2 (.int .i64 0)).set 3 (.int .i64 (f3 + f2)))
  have v0 := hr.cell 0
  have v1 := hr.cell 1
  have v2 := hr.cell 2
  have v3 := hr.cell 3
  simp only [List.getElem?_cons_zero, List.getElem?_cons_succ] at v0 v1 v2 v3
  refine bodyPost_ret (v := .agg #[.int .i64 f0, .int .i64 f1, .int .i64 0, .int .i64 (f3 + f2)]) (by simp [results, Try.results54, go_sem, v0, v1, v2, v3]) rfl ⟨rfl, ?_⟩
  exact (((((((Below.andThen B0.out BQ.out (Nat.le_refl _)).setCell (p := ⟨w.heap.size + 1, 2, none⟩) (by dsimp only; omega) (.int .i64 0)).setCell (p := ⟨w.heap.size + 1, 3, none⟩) (by dsimp only; omega) (.int .i64 (f3 + f2))).setCell (p := ⟨w.heap.size + 1 + 1 + 1, 0, none⟩) (by dsimp only; omega) (.int .i64 f0)).setCell (p := ⟨w.heap.size + 1 + 1 + 1, 1, none⟩) (by dsimp only; omega) (.int .i64 f1)).setCell (p := ⟨w.heap.size + 1 + 1 + 1, 2, none⟩) (by dsimp only; omega) (.int .i64 0)).setCell (p := ⟨w.heap.size + 1 + 1 + 1, 3, none⟩) (by dsimp only; omega) (.int .i64 (f3 + f2)))
set_option maxRecDepth 100000 in
set_option maxHeartbeats 1000000 in
theorem after_2_3h (n p0 p1 p2 p3 f0 f1 f2 f3 : Int) (hf : 0 ≤ f2 ∧ f2 ≤ 12) (ht : 0 ≤ f3 ∧ f3 ≤ p3) (hp : p3 ≤ 12) (hmin : p3 - f3 < f2) (w : World) :
    Calls Try.prog 54 #[.agg #[.int .i64 n, .int .i64 p0, .int .i64 p1, .int .i64 p2, .int .i64 p3], .agg #[.int .i64 f0, .int .i64 f1, .int .i64 f2, .int .i64 f3], .agg #[.int .i64 2, .int .i64 3]] w fun e w' => e = .returned (aggI (afterF [p0, p1, p2, p3] [f0, f1, f2, f3] 2 3)) ∧ Below w.heap.size w w' := by
  obtain ⟨V, hV, rJ, rF, rS, rR, hb, hsz⟩ := after_start w [.int .i64 n, .int .i64 p0, .int .i64 p1, .int .i64 p2, .int .i64 p3] [.int .i64 f0, .int .i64 f1, .int .i64 f2, .int .i64 f3] [.int .i64 2, .int .i64 3] [.int .i64 0, .int .i64 0, .int .i64 0, .int .i64 0]
  have e1 : IntKind.i64.wrap (p3 - f3) = p3 - f3 := i64_of _ (by omega) (by omega)
  have e2 : IntKind.i64.wrap (f2 - (p3 - f3)) = f2 - (p3 - f3) := i64_of _ (by omega) (by omega)
  have e3 : IntKind.i64.wrap (f3 + (p3 - f3)) = f3 + (p3 - f3) := i64_of _ (by omega) (by omega)
  have hm : min f2 (p3 - f3) = (p3 - f3) := by omega
  have FIN : Hid (aggI (afterF [p0, p1, p2, p3] [f0, f1, f2, f3] 2 3) = .agg #[.int .i64 f0, .int .i64 f1, .int .i64 (f2 - (p3 - f3)), .int .i64 (f3 + (p3 - f3))]) := Lib.hid (by simp [afterF, aggI, encI, hm])
  rw [FIN.out]
  have HV := Lib.hid hV
  have RJ := Lib.hid rJ
  have RF := Lib.hid rF
  have RR := Lib.hid rR
  have B0 := Lib.hid hb
  have s0 := rS.cell 0
  have s1 := rS.cell 1
  simp only [List.getElem?_cons_zero, List.getElem?_cons_succ] at s0 s1
  have u0 := Kl.cell rS.lt s0
  have u1 := Kl.cell rS.lt s1
  clear hV rJ rF rS rR hb hsz s0 s1
  go_enter Try.func54, Try.ntmps54
  go_wp2_with fail
  rw [← HV.out]
  refine wp_region_below (by kernel_rfl) (by kernel_rfl) ?_
  repeat (go_big_quiet_step (fail))
  refine wpQuiet_nil ?_
  rintro _ ⟨wq, rfl⟩
  have BQ := Lib.hid wq.h
  generalize wq.W = w2 at *
  clear u0 u1
  have q1 := (RF.out.below BQ.out RF.out.lt).cell 2
  have q2 := (RF.out.below BQ.out RF.out.lt).cell 3
  have q3 := (RJ.out.below BQ.out RJ.out.lt).cell 4
  simp only [List.getElem?_cons_zero, List.getElem?_cons_succ] at q1 q2 q3
  have u0 := Kl.cell (RF.out.below BQ.out RF.out.lt).lt q1
  have u1 := Kl.cell (RF.out.below BQ.out RF.out.lt).lt q2
  have u2 := Kl.cell (RJ.out.below BQ.out RJ.out.lt).lt q3
  clear q1 q2 q3
  go_wp2_with fail
  refine wp_region_below (by kernel_rfl) (by kernel_rfl) ?_
  repeat (go_big_quiet_step (fail))
  refine wpQuiet_nil ?_
  rintro _ ⟨wq, rfl⟩
  have BQ := Lib.hid (Below.andThen BQ.out wq.h (by have := BQ.out.size; have := RR.out.lt; omega))
  generalize wq.W = w2 at *
  clear u0 u1 u2
  have rJ := RJ.out.below BQ.out RJ.out.lt
  have rF := RF.out.below BQ.out RF.out.lt
  have rR := RR.out.below BQ.out RR.out.lt
  have RF2 := Lib.hid rF
  have RR2 := Lib.hid rR
  have j1 := rJ.cell 1
  have j2 := rJ.cell 2
  have j3 := rJ.cell 3
  have j4 := rJ.cell 4
  have c0 := rF.cell 0
  have c1 := rF.cell 1
  have c2 := rF.cell 2
  have c3 := rF.cell 3
  have z0 := rR.cell 0
  have z1 := rR.cell 1
  have z2 := rR.cell 2
  have z3 := rR.cell 3
  have k0 := frozen_of_row _ (w.heap.size + 1) 0 _ _ rF
  have k1 := frozen_of_row _ (w.heap.size + 1) 1 _ _ rF
  have k2 := frozen_of_row _ (w.heap.size + 1) 2 _ _ rF
  have k3 := frozen_of_row _ (w.heap.size + 1) 3 _ _ rF
  have l0 := frozen_of_row _ (w.heap.size + 1 + 1 + 1) 0 _ _ rR
  have l1 := frozen_of_row _ (w.heap.size + 1 + 1 + 1) 1 _ _ rR
  have l2 := frozen_of_row _ (w.heap.size + 1 + 1 + 1) 2 _ _ rR
  have l3 := frozen_of_row _ (w.heap.size + 1 + 1 + 1) 3 _ _ rR
  simp only [List.getElem?_cons_zero, List.getElem?_cons_succ] at j1 j2 j3 j4 c0 c1 c2 c3 z0 z1 z2 z3
  clear rJ rF rR
  go_wp2_with fail
  all_goals first | (exfalso; omega) | skip
  have hr : Row ((((((w2.setCell ⟨w.heap.size + 1, 2, none⟩ (.int .i64 (f2 - (p3 - f3)))).setCell ⟨w.heap.size + 1, 3, none⟩ (.int .i64 (f3 + (p3 - f3)))).setCell ⟨w.heap.size + 1 + 1 + 1, 0, none⟩ (.int .i64 f0)).setCell ⟨w.heap.size + 1 + 1 + 1, 1, none⟩ (.int .i64 f1)).setCell ⟨w.heap.size + 1 + 1 + 1, 2, none⟩ (.int .i64 (f2 - (p3 - f3)))).setCell ⟨w.heap.size + 1 + 1 + 1, 3, none⟩ (.int .i64 (f3 + (p3 - f3)))) (w.heap.size + 1 + 1 + 1) 77 [.int .i64 f0, .int .i64 f1, .int .i64 (f2 - (p3 - f3)), .int .i64 (f3 + (p3 - f3))] := by
    simpa using ((((((RR2.out.other (2) (.int .i64 (f2 - (p3 - f3))) (g' := w.heap.size + 1) (by omega)).other (3) (.int .i64 (f3 + (p3 - f3))) (g' := w.heap.size + 1) (by omega)).set 0 (.int .i64 f0)).set 1 (.int .i64 f1)).set 2 (.int .i64 (f2 - (p3 - f3)))).set 3 (.int .i64 (f3 + (p3 - f3))))
  have v0 := hr.cell 0
  have v1 := hr.cell 1
  have v2 := hr.cell 2
  have v3 := hr.cell 3
  simp only [List.getElem?_cons_zero, List.getElem?_cons_succ] at v0 v1 v2 v3
  refine bodyPost_ret (v := .agg #[.int .i64 f0, .int .i64 f1, .int .i64 (f2 - (p3 - f3)), .int .i64 (f3 + (p3 - f3))]) (by simp [results, Try.results54, go_sem, v0, v1, v2, v3]) rfl ⟨rfl, ?_⟩
  exact (((((((Below.andThen B0.out BQ.out (Nat.le_refl _)).setCell (p := ⟨w.heap.size + 1, 2, none⟩) (by dsimp only; omega) (.int .i64 (f2 - (p3 - f3)))).setCell (p := ⟨w.heap.size + 1, 3, none⟩) (by dsimp only; omega) (.int .i64 (f3 + (p3 - f3)))).setCell (p := ⟨w.heap.size + 1 + 1 + 1, 0, none⟩) (by dsimp only; omega) (.int .i64 f0)).setCell (p := ⟨w.heap.size + 1 + 1 + 1, 1, none⟩) (by dsimp only; omega) (.int .i64 f1)).setCell (p := ⟨w.heap.size + 1 + 1 + 1, 2, none⟩) (by dsimp only; omega) (.int .i64 (f2 - (p3 - f3)))).setCell (p := ⟨w.heap.size + 1 + 1 + 1, 3, none⟩) (by dsimp only; omega) (.int .i64 (f3 + (p3 - f3))))
set_option maxRecDepth 100000 in
set_option maxHeartbeats 1000000 in
theorem after_3_s (n p0 p1 p2 p3 f0 f1 f2 f3 : Int) (w : World) :
    Calls Try.prog 54 #[.agg #[.int .i64 n, .int .i64 p0, .int .i64 p1, .int .i64 p2, .int .i64 p3], .agg #[.int .i64 f0, .int .i64 f1, .int .i64 f2, .int .i64 f3], .agg #[.int .i64 3, .int .i64 (-1)]] w fun e w' => e = .returned (aggI (afterF [p0, p1, p2, p3] [f0, f1, f2, f3] 3 (-1))) ∧ Below w.heap.size w w' := by
  obtain ⟨V, hV, rJ, rF, rS, rR, hb, hsz⟩ := after_start w [.int .i64 n, .int .i64 p0, .int .i64 p1, .int .i64 p2, .int .i64 p3] [.int .i64 f0, .int .i64 f1, .int .i64 f2, .int .i64 f3] [.int .i64 3, .int .i64 (-1)] [.int .i64 0, .int .i64 0, .int .i64 0, .int .i64 0]
  have FIN : Hid (aggI (afterF [p0, p1, p2, p3] [f0, f1, f2, f3] 3 (-1)) = .agg #[.int .i64 f0, .int .i64 f1, .int .i64 f2, .int .i64 0]) := Lib.hid (by simp [afterF, aggI, encI])
  rw [FIN.out]
  have HV := Lib.hid hV
  have RJ := Lib.hid rJ
  have RF := Lib.hid rF
  have RR := Lib.hid rR
  have B0 := Lib.hid hb
  have s0 := rS.cell 0
  have s1 := rS.cell 1
  simp only [List.getElem?_cons_zero, List.getElem?_cons_succ] at s0 s1
  have u0 := Kl.cell rS.lt s0
  have u1 := Kl.cell rS.lt s1
  clear hV rJ rF rS rR hb hsz s0 s1
  go_enter Try.func54, Try.ntmps54
  go_wp2_with fail
  rw [← HV.out]
  refine wp_region_below (by kernel_rfl) (by kernel_rfl) ?_
  repeat (go_big_quiet_step (fail))
  refine wpQuiet_nil ?_
  rintro _ ⟨wq, rfl⟩
  have BQ := Lib.hid wq.h
  generalize wq.W = w2 at *
  clear u0 u1
  have rJ := RJ.out.below BQ.out RJ.out.lt
  have rF := RF.out.below BQ.out RF.out.lt
  have rR := RR.out.below BQ.out RR.out.lt
  have RF2 := Lib.hid rF
  have RR2 := Lib.hid rR
  have j1 := rJ.cell 1
  have j2 := rJ.cell 2
  have j3 := rJ.cell 3
  have j4 := rJ.cell 4
  have c0 := rF.cell 0
  have c1 := rF.cell 1
  have c2 := rF.cell 2
  have c3 := rF.cell 3
  have z0 := rR.cell 0
  have z1 := rR.cell 1
  have z2 := rR.cell 2
  have z3 := rR.cell 3
  have k0 := frozen_of_row _ (w.heap.size + 1) 0 _ _ rF
  have k1 := frozen_of_row _ (w.heap.size + 1) 1 _ _ rF
  have k2 := frozen_of_row _ (w.heap.size + 1) 2 _ _ rF
  have k3 := frozen_of_row _ (w.heap.size + 1) 3 _ _ rF
  have l0 := frozen_of_row _ (w.heap.size + 1 + 1 + 1) 0 _ _ rR
  have l1 := frozen_of_row _ (w.heap.size + 1 + 1 + 1) 1 _ _ rR
  have l2 := frozen_of_row _ (w.heap.size + 1 + 1 + 1) 2 _ _ rR
  have l3 := frozen_of_row _ (w.heap.size + 1 + 1 + 1) 3 _ _ rR
  simp only [List.getElem?_cons_zero, List.getElem?_cons_succ] at j1 j2 j3 j4 c0 c1 c2 c3 z0 z1 z2 z3
  clear rJ rF rR
  go_wp2_with fail
  have hr : Row (((((w2.setCell ⟨w.heap.size + 1, 3, none⟩ (.int .i64 0)).setCell ⟨w.heap.size + 1 + 1 + 1, 0, none⟩ (.int .i64 f0)).setCell ⟨w.heap.size + 1 + 1 + 1, 1, none⟩ (.int .i64 f1)).setCell ⟨w.heap.size + 1 + 1 + 1, 2, none⟩ (.int .i64 f2)).setCell ⟨w.heap.size + 1 + 1 + 1, 3, none⟩ (.int .i64 0)) (w.heap.size + 1 + 1 + 1) 77 [.int .i64 f0, .int .i64 f1, .int .i64 f2, .int .i64 0] := by
    simpa using (((((RR2.out.other (3) (.int .i64 0) (g' := w.heap.size + 1) (by omega)).set 0 (.int .i64 f0)).set 1 (.int .i64 f1)).set 2 (.int .i64 f2)).set 3 (.int .i64 0))
  have v0 := hr.cell 0
  have v1 := hr.cell 1
  have v2 := hr.cell 2
  have v3 := hr.cell 3
  simp only [List.getElem?_cons_zero, List.getElem?_cons_succ] at v0 v1 v2 v3
  refine bodyPost_ret (v := .agg #[.int .i64 f0, .int .i64 f1, .int .i64 f2, .int .i64 0]) (by simp [results, Try.results54, go_sem, v0, v1, v2, v3]) rfl ⟨rfl, ?_⟩
  exact ((((((Below.andThen B0.out BQ.out (Nat.le_refl _)).setCell (p := ⟨w.heap.size + 1, 3, none⟩) (by dsimp only; omega) (.int .i64 0)).setCell (p := ⟨w.heap.size + 1 + 1 + 1, 0, none⟩) (by dsimp only; omega) (.int .i64 f0)).setCell (p := ⟨w.heap.size + 1 + 1 + 1, 1, none⟩) (by dsimp only; omega) (.int .i64 f1)).setCell (p := ⟨w.heap.size + 1 + 1 + 1, 2, none⟩) (by dsimp only; omega) (.int .i64 f2)).setCell (p := ⟨w.heap.size + 1 + 1 + 1, 3, none⟩) (by dsimp only; omega) (.int .i64 0))
set_option maxRecDepth 100000 in
set_option maxHeartbeats 1000000 in
theorem after_3_0l (n p0 p1 p2 p3 f0 f1 f2 f3 : Int) (hf : 0 ≤ f3 ∧ f3 ≤ 12) (ht : 0 ≤ f0 ∧ f0 ≤ p0) (hp : p0 ≤ 12) (hmin : f3 ≤ p0 - f0) (w : World) :
    Calls Try.prog 54 #[.agg #[.int .i64 n, .int .i64 p0, .int .i64 p1, .int .i64 p2, .int .i64 p3], .agg #[.int .i64 f0, .int .i64 f1, .int .i64 f2, .int .i64 f3], .agg #[.int .i64 3, .int .i64 0]] w fun e w' => e = .returned (aggI (afterF [p0, p1, p2, p3] [f0, f1, f2, f3] 3 0)) ∧ Below w.heap.size w w' := by
  obtain ⟨V, hV, rJ, rF, rS, rR, hb, hsz⟩ := after_start w [.int .i64 n, .int .i64 p0, .int .i64 p1, .int .i64 p2, .int .i64 p3] [.int .i64 f0, .int .i64 f1, .int .i64 f2, .int .i64 f3] [.int .i64 3, .int .i64 0] [.int .i64 0, .int .i64 0, .int .i64 0, .int .i64 0]
  have e1 : IntKind.i64.wrap (p0 - f0) = p0 - f0 := i64_of _ (by omega) (by omega)
  have e2 : IntKind.i64.wrap (f3 - f3) = f3 - f3 := i64_of _ (by omega) (by omega)
  have e3 : IntKind.i64.wrap (f0 + f3) = f0 + f3 := i64_of _ (by omega) (by omega)
  have hm : min f3 (p0 - f0) = f3 := by omega
  have FIN : Hid (aggI (afterF [p0, p1, p2, p3] [f0, f1, f2, f3] 3 0) = .agg #[.int .i64 (f0 + f3), .int .i64 f1, .int .i64 f2, .int .i64 0]) := Lib.hid (by simp [afterF, aggI, encI, hm])
  rw [FIN.out]
  have HV := Lib.hid hV
  have RJ := Lib.hid rJ
  have RF := Lib.hid rF
  have RR := Lib.hid rR
  have B0 := Lib.hid hb
  have s0 := rS.cell 0
  have s1 := rS.cell 1
  simp only [List.getElem?_cons_zero, List.getElem?_cons_succ] at s0 s1
  have u0 := Kl.cell rS.lt s0
  have u1 := Kl.cell rS.lt s1
  clear hV rJ rF rS rR hb hsz s0 s1
  go_enter Try.func54, Try.ntmps54
  go_wp2_with fail
  rw [← HV.out]
  refine wp_region_below (by kernel_rfl) (by kernel_rfl) ?_
  repeat (go_big_quiet_step (fail))
  refine wpQuiet_nil ?_
  rintro _ ⟨wq, rfl⟩
  have BQ := Lib.hid wq.h
  generalize wq.W = w2 at *
  clear u0 u1
  have q1 := (RF.out.below BQ.out RF.out.lt).cell 3
  have q2 := (RF.out.below BQ.out RF.out.lt).cell 0
  have q3 := (RJ.out.below BQ.out RJ.out.lt).cell 1
  simp only [List.getElem?_cons_zero, List.getElem?_cons_succ] at q1 q2 q3
  have u0 := Kl.cell (RF.out.below BQ.out RF.out.lt).lt q1
  have u1 := Kl.cell (RF.out.below BQ.out RF.out.lt).lt q2
  have u2 := Kl.cell (RJ.out.below BQ.out RJ.out.lt).lt q3
  clear q1 q2 q3
  go_wp2_with fail
  refine wp_region_below (by kernel_rfl) (by kernel_rfl) ?_
  repeat (go_big_quiet_step (fail))
  refine wpQuiet_nil ?_
  rintro _ ⟨wq, rfl⟩
  have BQ := Lib.hid (Below.andThen BQ.out wq.h (by have := BQ.out.size; have := RR.out.lt; omega))
  generalize wq.W = w2 at *
  clear u0 u1 u2
  have rJ := RJ.out.below BQ.out RJ.out.lt
  have rF := RF.out.below BQ.out RF.out.lt
  have rR := RR.out.below BQ.out RR.out.lt
  have RF2 := Lib.hid rF
  have RR2 := Lib.hid rR
  have j1 := rJ.cell 1
  have j2 := rJ.cell 2
  have j3 := rJ.cell 3
  have j4 := rJ.cell 4
  have c0 := rF.cell 0
  have c1 := rF.cell 1
  have c2 := rF.cell 2
  have c3 := rF.cell 3
  have z0 := rR.cell 0
  have z1 := rR.cell 1
  have z2 := rR.cell 2
  have z3 := rR.cell 3
  have k0 := frozen_of_row _ (w.heap.size + 1) 0 _ _ rF
  have k1 := frozen_of_row _ (w.heap.size + 1) 1 _ _ rF
  have k2 := frozen_of_row _ (w.heap.size + 1) 2 _ _ rF
  have k3 := frozen_of_row _ (w.heap.size + 1) 3 _ _ rF
  have l0 := frozen_of_row _ (w.heap.size + 1 + 1 + 1) 0 _ _ rR
  have l1 := frozen_of_row _ (w.heap.size + 1 + 1 + 1) 1 _ _ rR
  have l2 := frozen_of_row _ (w.heap.size + 1 + 1 + 1) 2 _ _ rR
  have l3 := frozen_of_row _ (w.heap.size + 1 + 1 + 1) 3 _ _ rR
  simp only [List.getElem?_cons_zero, List.getElem?_cons_succ] at j1 j2 j3 j4 c0 c1 c2 c3 z0 z1 z2 z3
  clear rJ rF rR
  go_wp2_with fail
  all_goals first | (exfalso; omega) | skip
  have hr : Row ((((((w2.setCell ⟨w.heap.size + 1, 3, none⟩ (.int .i64 0)).setCell ⟨w.heap.size + 1, 0, none⟩ (.int .i64 (f0 + f3))).setCell ⟨w.heap.size + 1 + 1 + 1, 0, none⟩ (.int .i64 (f0 + f3))).setCell ⟨w.heap.size + 1 + 1 + 1, 1, none⟩ (.int .i64 f1)).setCell ⟨w.heap.size + 1 + 1 + 1, 2, none⟩ (.int .i64 f2)).setCell ⟨w.heap.size + 1 + 1 + 1, 3, none⟩ (.int .i64 0)) (w.heap.size + 1 + 1 + 1) 77 [.int .i64 (f0 + f3), .int .i64 f1, .int .i64 f2, .int .i64 0] := by
    simpa using ((((((RR2.out.other (3) (.int .i64 0) (g' := w.heap.size + 1) (by omega)).other (0) (.int .i64 (f0 + f3)) (g' := w.heap.size + 1) (by omega)).set 0 (.int .i64 (f0 + f3))).set 1 (.int .i64 f1)).set 2 (.int .i64 f2)).set 3 (.int .i64 0))
  have v0 := hr.cell 0
  have v1 := hr.cell 1
  have v2 := hr.cell 2
  have v3 := hr.cell 3
  simp only [List.getElem?_cons_zero, List.getElem?_cons_succ] at v0 v1 v2 v3
  refine bodyPost_ret (v := .agg #[.int .i64 (f0 + f3), .int .i64 f1, .int .i64 f2, .int .i64 0]) (by simp [results, Try.results54, go_sem, v0, v1, v2, v3]) rfl ⟨rfl, ?_⟩
  exact (((((((Below.andThen B0.out BQ.out (Nat.le_refl _)).setCell (p := ⟨w.heap.size + 1, 3, none⟩) (by dsimp only; omega) (.int .i64 0)).setCell (p := ⟨w.heap.size + 1, 0, none⟩) (by dsimp only; omega) (.int .i64 (f0 + f3))).setCell (p := ⟨w.heap.size + 1 + 1 + 1, 0, none⟩) (by dsimp only; omega) (.int .i64 (f0 + f3))).setCell (p := ⟨w.heap.size + 1 + 1 + 1, 1, none⟩) (by dsimp only; omega) (.int .i64 f1)).setCell (p := ⟨w.heap.size + 1 + 1 + 1, 2, none⟩) (by dsimp only; omega) (.int .i64 f2)).setCell (p := ⟨w.heap.size + 1 + 1 + 1, 3, none⟩) (by dsimp only; omega) (.int .i64 0))
set_option maxRecDepth 100000 in
set_option maxHeartbeats 1000000 in
theorem after_3_0h (n p0 p1 p2 p3 f0 f1 f2 f3 : Int) (hf : 0 ≤ f3 ∧ f3 ≤ 12) (ht : 0 ≤ f0 ∧ f0 ≤ p0) (hp : p0 ≤ 12) (hmin : p0 - f0 < f3) (w : World) :
    Calls Try.prog 54 #[.agg #[.int .i64 n, .int .i64 p0, .int .i64 p1, .int .i64 p2, .int .i64 p3], .agg #[.int .i64 f0, .int .i64 f1, .int .i64 f2, .int .i64 f3], .agg #[.int .i64 3, .int .i64 0]] w fun e w' => e = .returned (aggI (afterF [p0, p1, p2, p3] [f0, f1, f2, f3] 3 0)) ∧ Below w.heap.size w w' := by
  obtain ⟨V, hV, rJ, rF, rS, rR, hb, hsz⟩ := after_start w [.int .i64 n, .int .i64 p0, .int .i64 p1, .int .i64 p2, .int .i64 p3] [.int .i64 f0, .int .i64 f1, .int .i64 f2, .int .i64 f3] [.int .i64 3, .int .i64 0] [.int .i64 0, .int .i64 0, .int .i64 0, .int .i64 0]
  have e1 : IntKind.i64.wrap (p0 - f0) = p0 - f0 := i64_of _ (by omega) (by omega)
  have e2 : IntKind.i64.wrap (f3 - (p0 - f0)) = f3 - (p0 - f0) := i64_of _ (by omega) (by omega)
  have e3 : IntKind.i64.wrap (f0 + (p0 - f0)) = f0 + (p0 - f0) := i64_of _ (by omega) (by omega)
  have hm : min f3 (p0 - f0) = (p0 - f0) := by omega
  have FIN : Hid (aggI (afterF [p0, p1, p2, p3] [f0, f1, f2, f3] 3 0) = .agg #[.int .i64 (f0 + (p0 - f0)), .int .i64 f1, .int .i64 f2, .int .i64 (f3 - (p0 - f0))]) := Lib.hid (by simp [afterF, aggI, encI, hm])
  rw [FIN.out]
  have HV := Lib.hid hV
  have RJ := Lib.hid rJ
  have RF := Lib.hid rF
  have RR := Lib.hid rR
  have B0 := Lib.hid hb
  have s0 := rS.cell 0
  have s1 := rS.cell 1
  simp only [List.getElem?_cons_zero, List.getElem?_cons_succ] at s0 s1
  have u0 := Kl.cell rS.lt s0
  have u1 := Kl.cell rS.lt s1
  clear hV rJ rF rS rR hb hsz s0 s1
  go_enter Try.func54, Try.ntmps54
  go_wp2_with fail
  rw [← HV.out]
  refine wp_region_below (by kernel_rfl) (by kernel_rfl) ?_
  repeat (go_big_quiet_step (fail))
  refine wpQuiet_nil ?_
  rintro _ ⟨wq, rfl⟩
  have BQ := Lib.hid wq.h
  generalize wq.W = w2 at *
  clear u0 u1
  have q1 := (RF.out.below BQ.out RF.out.lt).cell 3
  have q2 := (RF.out.below BQ.out RF.out.lt).cell 0
  have q3 := (RJ.out.below BQ.out RJ.out.lt).cell 1
  simp only [List.getElem?_cons_zero, List.getElem?_cons_succ] at q1 q2 q3
  have u0 := Kl.cell (RF.out.below BQ.out RF.out.lt).lt q1
  have u1 := Kl.cell (RF.out.below BQ.out RF.out.lt).lt q2
  have u2 := Kl.cell (RJ.out.below BQ.out RJ.out.lt).lt q3
  clear q1 q2 q3
  go_wp2_with fail
  refine wp_region_below (by kernel_rfl) (by kernel_rfl) ?_
  repeat (go_big_quiet_step (fail))
  refine wpQuiet_nil ?_
  rintro _ ⟨wq, rfl⟩
  have BQ := Lib.hid (Below.andThen BQ.out wq.h (by have := BQ.out.size; have := RR.out.lt; omega))
  generalize wq.W = w2 at *
  clear u0 u1 u2
  have rJ := RJ.out.below BQ.out RJ.out.lt
  have rF := RF.out.below BQ.out RF.out.lt
  have rR := RR.out.below BQ.out RR.out.lt
  have RF2 := Lib.hid rF
  have RR2 := Lib.hid rR
  have j1 := rJ.cell 1
  have j2 := rJ.cell 2
  have j3 := rJ.cell 3
  have j4 := rJ.cell 4
  have c0 := rF.cell 0
  have c1 := rF.cell 1
  have c2 := rF.cell 2
  have c3 := rF.cell 3
  have z0 := rR.cell 0
  have z1 := rR.cell 1
  have z2 := rR.cell 2
  have z3 := rR.cell 3
  have k0 := frozen_of_row _ (w.heap.size + 1) 0 _ _ rF
  have k1 := frozen_of_row _ (w.heap.size + 1) 1 _ _ rF
  have k2 := frozen_of_row _ (w.heap.size + 1) 2 _ _ rF
  have k3 := frozen_of_row _ (w.heap.size + 1) 3 _ _ rF
  have l0 := frozen_of_row _ (w.heap.size + 1 + 1 + 1) 0 _ _ rR
  have l1 := frozen_of_row _ (w.heap.size + 1 + 1 + 1) 1 _ _ rR
  have l2 := frozen_of_row _ (w.heap.size + 1 + 1 + 1) 2 _ _ rR
  have l3 := frozen_of_row _ (w.heap.size + 1 + 1 + 1) 3 _ _ rR
  simp only [List.getElem?_cons_zero, List.getElem?_cons_succ] at j1 j2 j3 j4 c0 c1 c2 c3 z0 z1 z2 z3
  clear rJ rF rR
  go_wp2_with fail
  all_goals first | (exfalso; omega) | skip
  have hr : Row ((((((w2.setCell ⟨w.heap.size + 1, 3, none⟩ (.int .i64 (f3 - (p0 - f0)))).setCell ⟨w.heap.size + 1, 0, none⟩ (.int .i64 (f0 + (p0 - f0)))).setCell ⟨w.heap.size + 1 + 1 + 1, 0, none⟩ (.int .i64 (f0 + (p0 - f0)))).setCell ⟨w.heap.size + 1 + 1 + 1, 1, none⟩ (.int .i64 f1)).setCell ⟨w.heap.size + 1 + 1 + 1, 2, none⟩ (.int .i64 f2)).setCell ⟨w.heap.size + 1 + 1 + 1, 3, none⟩ (.int .i64 (f3 - (p0 - f0)))) (w.heap.size + 1 + 1 + 1) 77 [.int .i64 (f0 + (p0 - f0)), .int .i64 f1, .int .i64 f2, .int .i64 (f3 - (p0 - f0))] := by
    simpa using ((((((RR2.out.other (3) (.int .i64 (f3 - (p0 - f0))) (g' := w.heap.size + 1) (by omega)).other (0) (.int .i64 (f0 + (p0 - f0))) (g' := w.heap.size + 1) (by omega)).set 0 (.int .i64 (f0 + (p0 - f0)))).set 1 (.int .i64 f1)).set 2 (.int .i64 f2)).set 3 (.int .i64 (f3 - (p0 - f0))))
  have v0 := hr.cell 0
  have v1 := hr.cell 1
  have v2 := hr.cell 2
  have v3 := hr.cell 3
  simp only [List.getElem?_cons_zero, List.getElem?_cons_succ] at v0 v1 v2 v3
  refine bodyPost_ret (v := .agg #[.int .i64 (f0 + (p0 - f0)), .int .i64 f1, .int .i64 f2, .int .i64 (f3 - (p0 - f0))]) (by simp [results, Try.results54, go_sem, v0, v1, v2, v3]) rfl ⟨rfl, ?_⟩
  exact (((((((Below.andThen B0.out BQ.out (Nat.le_refl _)).setCell (p := ⟨w.heap.size + 1, 3, none⟩) (by dsimp only; omega) (.int .i64 (f3 - (p0 - f0)))).setCell (p := ⟨w.heap.size + 1, 0, none⟩) (by dsimp only; omega) (.int .i64 (f0 + (p0 - f0)))).setCell (p := ⟨w.heap.size + 1 + 1 + 1, 0, none⟩) (by dsimp only; omega) (.int .i64 (f0 + (p0 - f0)))).setCell (p := ⟨w.heap.size + 1 + 1 + 1, 1, none⟩) (by dsimp only; omega) (.int .i64 f1)).setCell (p := ⟨w.heap.size + 1 + 1 + 1, 2, none⟩) (by dsimp only; omega) (.int .i64 f2)).setCell (p := ⟨w.heap.size + 1 + 1 + 1, 3, none⟩) (by dsimp only; omega) (.int .i64 (f3 - (p0 - f0))))
set_option maxRecDepth 100000 in
set_option maxHeartbeats 1000000 in
theorem after_3_1l (n p0 p1 p2 p3 f0 f1 f2 f3 : Int) (hf : 0 ≤ f3 ∧ f3 ≤ 12) (ht : 0 ≤ f1 ∧ f1 ≤ p1) (hp : p1 ≤ 12) (hmin : f3 ≤ p1 - f1) (w : World) :
    Calls Try.prog 54 #[.agg #[.int .i64 n, .int .i64 p0, .int .i64 p1, .int .i64 p2, .int .i64 p3], .agg #[.int .i64 f0, .int .i64 f1, .int .i64 f2, .int .i64 f3], .agg #[.int .i64 3, .int .i64 1]] w fun e w' => e = .returned (aggI (afterF [p0, p1, p2, p3] [f0, f1, f2, f3] 3 1)) ∧ Below w.heap.size w w' := by
  obtain ⟨V, hV, rJ, rF, rS, rR, hb, hsz⟩ := after_start w [.int .i64 n, .int .i64 p0, .int .i64 p1, .int .i64 p2, .int .i64 p3] [.int .i64 f0, .int .i64 f1, .int .i64 f2, .int .i64 f3] [.int .i64 3, .int .i64 1] [.int .i64 0, .int .i64 0, .int .i64 0, .int .i64 0]
  have e1 : IntKind.i64.wrap (p1 - f1) = p1 - f1 := i64_of _ (by omega) (by omega)
  have e2 : IntKind.i64.wrap (f3 - f3) = f3 - f3 := i64_of _ (by omega) (by omega)
  have e3 : IntKind.i64.wrap (f1 + f3) = f1 + f3 := i64_of _ (by omega) (by omega)
  have hm : min f3 (p1 - f1) = f3 := by omega
  have FIN : Hid (aggI (afterF [p0, p1, p2, p3] [f0, f1, f2, f3] 3 1) = .agg #[.int .i64 f0, .int .i64 (f1 + f3), .int .i64 f2, .int .i64 0]) := Lib.hid (by simp [afterF, aggI, encI, hm])
  rw [FIN.out]
  have HV := Lib.hid hV
  have RJ := Lib.hid rJ
  have RF := Lib.hid rF
  have RR := Lib.hid rR
  have B0 := Lib.hid hb
  have s0 := rS.cell 0
  have s1 := rS.cell 1
  simp only [List.getElem?_cons_zero, List.getElem?_cons_succ] at s0 s1
  have u0 := Kl.cell rS.lt s0
  have u1 := Kl.cell rS.lt s1
  clear hV rJ rF rS rR hb hsz s0 s1
  go_enter Try.func54, Try.ntmps54
  go_wp2_with fail
  rw [← HV.out]
  refine wp_region_below (by kernel_rfl) (by kernel_rfl) ?_
  repeat (go_big_quiet_step (fail))
  refine wpQuiet_nil ?_
  rintro _ ⟨wq, rfl⟩
  have BQ := Lib.hid wq.h
  generalize wq.W = w2 at *
  clear u0 u1
  have q1 := (RF.out.below BQ.out RF.out.lt).cell 3
  have q2 := (RF.out.below BQ.out RF.out.lt).cell 1
  have q3 := (RJ.out.below BQ.out RJ.out.lt).cell 2
  simp only [List.getElem?_cons_zero, List.getElem?_cons_succ] at q1 q2 q3
  have u0 := Kl.cell (RF.out.below BQ.out RF.out.lt).lt q1
  have u1 := Kl.cell (RF.out.below BQ.out RF.out.lt).lt q2
  have u2 := Kl.cell (RJ.out.below BQ.out RJ.out.lt).lt q3
  clear q1 q2 q3
  go_wp2_with fail
  refine wp_region_below (by kernel_rfl) (by kernel_rfl) ?_
  repeat (go_big_quiet_step (fail))
  refine wpQuiet_nil ?_
  rintro _ ⟨wq, rfl⟩
  have BQ := Lib.hid (Below.andThen BQ.out wq.h (by have := BQ.out.size; have := RR.out.lt; omega))
  generalize wq.W = w2 at *
  clear u0 u1 u2
  have rJ := RJ.out.below BQ.out RJ.out.lt
  have rF := RF.out.below BQ.out RF.out.lt
  have rR := RR.out.below BQ.out RR.out.lt
  have RF2 := Lib.hid rF
  have RR2 := Lib.hid rR
  have j1 := rJ.cell 1
  have j2 := rJ.cell 2
  have j3 := rJ.cell 3
  have j4 := rJ.cell 4
  have c0 := rF.cell 0
  have c1 := rF.cell 1
  have c2 := rF.cell 2
  have c3 := rF.cell 3
  have z0 := rR.cell 0
  have z1 := rR.cell 1
  have z2 := rR.cell 2
  have z3 := rR.cell 3
  have k0 := frozen_of_row _ (w.heap.size + 1) 0 _ _ rF
  have k1 := frozen_of_row _ (w.heap.size + 1) 1 _ _ rF
  have k2 := frozen_of_row _ (w.heap.size + 1) 2 _ _ rF
  have k3 := frozen_of_row _ (w.heap.size + 1) 3 _ _ rF
  have l0 := frozen_of_row _ (w.heap.size + 1 + 1 + 1) 0 _ _ rR
  have l1 := frozen_of_row _ (w.heap.size + 1 + 1 + 1) 1 _ _ rR
  have l2 := frozen_of_row _ (w.heap.size + 1 + 1 + 1) 2 _ _ rR
  have l3 := frozen_of_row _ (w.heap.size + 1 + 1 + 1) 3 _ _ rR
  simp only [List.getElem?_cons_zero, List.getElem?_cons_succ] at j1 j2 j3 j4 c0 c1 c2 c3 z0 z1 z2 z3
  clear rJ rF rR
  go_wp2_with fail
  all_goals first | (exfalso; omega) | skip
  have hr : Row ((((((w2.setCell ⟨w.heap.size + 1, 3, none⟩ (.int .i64 0)).setCell ⟨w.heap.size + 1, 1, none⟩ (.int .i64 (f1 + f3))).setCell ⟨w.heap.size + 1 + 1 + 1, 0, none⟩ (.int .i64 f0)).setCell ⟨w.heap.size + 1 + 1 + 1, 1, none⟩ (.int .i64 (f1 + f3))).setCell ⟨w.heap.size + 1 + 1 + 1, 2, none⟩ (.int .i64 f2)).setCell ⟨w.heap.size + 1 + 1 + 1, 3, none⟩ (.int .i64 0)) (w.heap.size + 1 + 1 + 1) 77 [.int .i64 f0, .int .i64 (f1 + f3), .int .i64 f2, .int .i64 0] := by
    simpa using ((((((RR2.out.other (3) (.int .i64 0) (g' := w.heap.size + 1) (by omega)).other (1) (.int .i64 (f1 + f3)) (g' := w.heap.size + 1) (by omega)).set 0 (.int .i64 f0)).set 1 (.int .i64 (f1 + f3))).set 2 (.int .i64 f2)).set 3 (.int .i64 0))
  have v0 := hr.cell 0
  have v1 := hr.cell 1
  have v2 := hr.cell 2
  have v3 := hr.cell 3
  simp only [List.getElem?_cons_zero, List.getElem?_cons_succ] at v0 v1 v2 v3
  refine bodyPost_ret (v := .agg #[.int .i64 f0, .int .i64 (f1 + f3), .int .i64 f2, .int .i64 0]) (by simp [results, Try.results54, go_sem, v0, v1, v2, v3]) rfl ⟨rfl, ?_⟩
  exact (((((((Below.andThen B0.out BQ.out (Nat.le_refl _)).setCell (p := ⟨w.heap.size + 1, 3, none⟩) (by dsimp only; omega) (.int .i64 0)).setCell (p := ⟨w.heap.size + 1, 1, none⟩) (by dsimp only; omega) (.int .i64 (f1 + f3))).setCell (p := ⟨w.heap.size + 1 + 1 + 1, 0, none⟩) (by dsimp only; omega) (.int .i64 f0)).setCell (p := ⟨w.heap.size + 1 + 1 + 1, 1, none⟩) (by dsimp only; omega) (.int .i64 (f1 + f3))).setCell (p := ⟨w.heap.size + 1 + 1 + 1, 2, none⟩) (by dsimp only; omega) (.int .i64 f2)).setCell (p := ⟨w.heap.size + 1 + 1 + 1, 3, none⟩) (by dsimp only; omega) (.int .i64 0))
set_option maxRecDepth 100000 in
set_option maxHeartbeats 1000000 in
theorem after_3_1h (n p0 p1 p2 p3 f0 f1 f2 f3 : Int) (hf : 0 ≤ f3 ∧ f3 ≤ 12) (ht : 0 ≤ f1 ∧ f1 ≤ p1) (hp : p1 ≤ 12) (hmin : p1 - f1 < f3) (w : World) :
    Calls Try.prog 54 #[.agg #[.int .i64 n, .int .i64 p0, .int .i64 p1, .int .i64 p2, .int .i64 p3], .agg #[.int .i64 f0, .int .i64 f1, .int .i64 f2, .int .i64 f3], .agg #[.int .i64 3, .int .i64 1]] w fun e w' => e = .returned (aggI (afterF [p0, p1, p2, p3] [f0, f1, f2, f3] 3 1)) ∧ Below w.heap.size w w' := by
  obtain ⟨V, hV, rJ, rF, rS, rR, hb, hsz⟩ := after_start w [.int .i64 n, .int .i64 p0, .int .i64 p1, .int .i64 p2, .int .i64 p3] [.int .i64 f0, .int .i64 f1, .int .i64 f2, .int .i64 f3] [.int .i64 3, .int .i64 1] [.int .i64 0, .int .i64 0, .int .i64 0, .int .i64 0]
  have e1 : IntKind.i64.wrap (p1 - f1) = p1 - f1 := i64_of _ (by omega) (by omega)
  have e2 : IntKind.i64.wrap (f3 - (p1 - f1)) = f3 - (p1 - f1) := i64_of _ (by omega) (by omega)
  have e3 : IntKind.i64.wrap (f1 + (p1 - f1)) = f1 + (p1 - f1) := i64_of _ (by omega) (by omega)
  have hm : min f3 (p1 - f1) = (p1 - f1) := by omega
  have FIN : Hid (aggI (afterF [p0, p1, p2, p3] [f0, f1, f2, f3] 3 1) = .agg #[.int .i64 f0, .int .i64 (f1 + (p1 - f1)), .int .i64 f2, .int .i64 (f3 - (p1 - f1))]) := Lib.hid (by simp [afterF, aggI, encI, hm])
  rw [FIN.out]
  have HV := Lib.hid hV
  have RJ := Lib.hid rJ
  have RF := Lib.hid rF
  have RR := Lib.hid rR
  have B0 := Lib.hid hb
  have s0 := rS.cell 0
  have s1 := rS.cell 1
  simp only [List.getElem?_cons_zero, List.getElem?_cons_succ] at s0 s1
  have u0 := Kl.cell rS.lt s0
  have u1 := Kl.cell rS.lt s1
  clear hV rJ rF rS rR hb hsz s0 s1
  go_enter Try.func54, Try.ntmps54
  go_wp2_with fail
  rw [← HV.out]
  refine wp_region_below (by kernel_rfl) (by kernel_rfl) ?_
  repeat (go_big_quiet_step (fail))
  refine wpQuiet_nil ?_
  rintro _ ⟨wq, rfl⟩
  have BQ := Lib.hid wq.h
  generalize wq.W = w2 at *
  clear u0 u1
  have q1 := (RF.out.below BQ.out RF.out.lt).cell 3
  have q2 := (RF.out.below BQ.out RF.out.lt).cell 1
  have q3 := (RJ.out.below BQ.out RJ.out.lt).cell 2
  simp only [List.getElem?_cons_zero, List.getElem?_cons_succ] at q1 q2 q3
  have u0 := Kl.cell (RF.out.below BQ.out RF.out.lt).lt q1
  have u1 := Kl.cell (RF.out.below BQ.out RF.out.lt).lt q2
  have u2 := Kl.cell (RJ.out.below BQ.out RJ.out.lt).lt q3
  clear q1 q2 q3
  go_wp2_with fail
  refine wp_region_below (by kernel_rfl) (by kernel_rfl) ?_
  repeat (go_big_quiet_step (fail))
  refine wpQuiet_nil ?_
  rintro _ ⟨wq, rfl⟩
  have BQ := Lib.hid (Below.andThen BQ.out wq.h (by have := BQ.out.size; have := RR.out.lt; omega))
  generalize wq.W = w2 at *
  clear u0 u1 u2
  have rJ := RJ.out.below BQ.out RJ.out.lt
  have rF := RF.out.below BQ.out RF.out.lt
  have rR := RR.out.below BQ.out RR.out.lt
  have RF2 := Lib.hid rF
  have RR2 := Lib.hid rR
  have j1 := rJ.cell 1
  have j2 := rJ.cell 2
  have j3 := rJ.cell 3
  have j4 := rJ.cell 4
  have c0 := rF.cell 0
  have c1 := rF.cell 1
  have c2 := rF.cell 2
  have c3 := rF.cell 3
  have z0 := rR.cell 0
  have z1 := rR.cell 1
  have z2 := rR.cell 2
  have z3 := rR.cell 3
  have k0 := frozen_of_row _ (w.heap.size + 1) 0 _ _ rF
  have k1 := frozen_of_row _ (w.heap.size + 1) 1 _ _ rF
  have k2 := frozen_of_row _ (w.heap.size + 1) 2 _ _ rF
  have k3 := frozen_of_row _ (w.heap.size + 1) 3 _ _ rF
  have l0 := frozen_of_row _ (w.heap.size + 1 + 1 + 1) 0 _ _ rR
  have l1 := frozen_of_row _ (w.heap.size + 1 + 1 + 1) 1 _ _ rR
  have l2 := frozen_of_row _ (w.heap.size + 1 + 1 + 1) 2 _ _ rR
  have l3 := frozen_of_row _ (w.heap.size + 1 + 1 + 1) 3 _ _ rR
  simp only [List.getElem?_cons_zero, List.getElem?_cons_succ] at j1 j2 j3 j4 c0 c1 c2 c3 z0 z1 z2 z3
  clear rJ rF rR
  go_wp2_with fail
  all_goals first | (exfalso; omega) | skip
  have hr : Row ((((((w2.setCell ⟨w.heap.size + 1, 3, none⟩ (.int .i64 (f3 - (p1 - f1)))).setCell ⟨w.heap.size + 1, 1, none⟩ (.int .i64 (f1 + (p1 - f1)))).setCell ⟨w.heap.size + 1 + 1 + 1, 0, none⟩ (.int .i64 f0)).setCell ⟨w.heap.size + 1 + 1 + 1, 1, none⟩ (.int .i64 (f1 + (p1 - f1)))).setCell ⟨w.heap.size + 1 + 1 + 1, 2, none⟩ (.int .i64 f2)).setCell ⟨w.heap.size + 1 + 1 + 1, 3, none⟩ (.int .i64 (f3 - (p1 - f1)))) (w.heap.size + 1 + 1 + 1) 77 [.int .i64 f0, .int .i64 (f1 + (p1 - f1)), .int .i64 f2, .int .i64 (f3 - (p1 - f1))] := by
    simpa using ((((((RR2.out.other (3) (.int .i64 (f3 - (p1 - f1))) (g' := w.heap.size + 1) (by omega)).other (1) (.int .i64 (f1 + (p1 - f1))) (g' := w.heap.size + 1) (by omega)).set 0 (.int .i64 f0)).set 1 (.int .i64 (f1 + (p1 - f1)))).set 2 (.int .i64 f2)).set 3 (.int .i64 (f3 - (p1 - f1))))
  have v0 := hr.cell 0
  have v1 := hr.cell 1
  have v2 := hr.cell 2
  have v3 := hr.cell 3
  simp only [List.getElem?_cons_zero, List.getElem?_cons_succ] at v0 v1 v2 v3
  refine bodyPost_ret (v := .agg #[.int .i64 f0, .int .i64 (f1 + (p1 - f1)), .int .i64 f2, .int .i64 (f3 - (p1 - f1))]) (by simp [results, Try.results54, go_sem, v0, v1, v2, v3]) rfl ⟨rfl, ?_⟩
  exact (((((((Below.andThen B0.out BQ.out (Nat.le_refl _)).setCell (p := ⟨w.heap.size + 1, 3, none⟩) (by dsimp only; omega) (.int .i64 (f3 - (p1 - f1)))).setCell (p := ⟨w.heap.size + 1, 1, none⟩) (by dsimp only; omega) (.int .i64 (f1 + (p1 - f1)))).setCell (p := ⟨w.heap.size + 1 + 1 + 1, 0, none⟩) (by dsimp only; omega) (.int .i64 f0)).setCell (p := ⟨w.heap.size + 1 + 1 + 1, 1, none⟩) (by dsimp only; omega) (.int .i64 (f1 + (p1 - f1)))).setCell (p := ⟨w.heap.size + 1 + 1 + 1, 2, none⟩) (by dsimp only; omega) (.int .i64 f2)).setCell (p := ⟨w.heap.size + 1 + 1 + 1, 3, none⟩) (by dsimp only; omega) (.int .i64 (f3 - (p1 - f1))))
set_option maxRecDepth 100000 in
set_option maxHeartbeats 1000000 in
theorem after_3_2l (n p0 p1 p2 p3 f0 f1 f2 f3 : Int) (hf : 0 ≤ f3 ∧ f3 ≤ 12) (ht : 0 ≤ f2 ∧ f2 ≤ p2) (hp : p2 ≤ 12) (hmin : f3 ≤ p2 - f2) (w : World) :
    Calls Try.prog 54 #[.agg #[.int .i64 n, .int .i64 p0, .int .i64 p1, .int .i64 p2, .int .i64 p3], .agg #[.int .i64 f0, .int .i64 f1, .int .i64 f2, .int .i64 f3], .agg #[.int .i64 3, .int .i64 2]] w fun e w' => e = .returned (aggI (afterF [p0, p1, p2, p3] [f0, f1, f2, f3] 3 2)) ∧ Below w.heap.size w w' := by
  obtain ⟨V, hV, rJ, rF, rS, rR, hb, hsz⟩ := after_start w [.int .i64 n, .int .i64 p0, .int .i64 p1, .int .i64 p2, .int .i64 p3] [.int .i64 f0, .int .i64 f1, .int .i64 f2, .int .i64 f3] [.int .i64 3, .int .i64 2] [.int .i64 0, .int .i64 0, .int .i64 0, .int .i64 0]
  have e1 : IntKind.i64.wrap (p2 - f2) = p2 - f2 := i64_of _ (by omega) (by omega)
  have e2 : IntKind.i64.wrap (f3 - f3) = f3 - f3 := i64_of _ (by omega) (by omega)
  have e3 : IntKind.i64.wrap (f2 + f3) = f2 + f3 := i64_of _ (by omega) (by omega)
  have hm : min f3 (p2 - f2) = f3 := by omega
  have FIN : Hid (aggI (afterF [p0, p1, p2, p3] [f0, f1, f2, f3] 3 2) = .agg #[.int .i64 f0, .int .i64 f1, .int .i64 (f2 + f3), .int .i64 0]) := Lib.hid (by simp [afterF, aggI, encI, hm])
  rw [FIN.out]
  have HV := Lib.hid hV
  have RJ := Lib.hid rJ
  have RF := Lib.hid rF
  have RR := Lib.hid rR
  have B0 := Lib.hid hb
  have s0 := rS.cell 0
  have s1 := rS.cell 1
  simp only [List.getElem?_cons_zero, List.getElem?_cons_succ] at s0 s1
  have u0 := Kl.cell rS.lt s0
  have u1 := Kl.cell rS.lt s1
  clear hV rJ rF rS rR hb hsz s0 s1
  go_enter Try.func54, Try.ntmps54
  go_wp2_with fail
  rw [← HV.out]
  refine wp_region_below (by kernel_rfl) (by kernel_rfl) ?_
  repeat (go_big_quiet_step (fail))
  refine wpQuiet_nil ?_
  rintro _ ⟨wq, rfl⟩
  have BQ := Lib.hid wq.h
  generalize wq.W = w2 at *
  clear u0 u1
  have q1 := (RF.out.below BQ.out RF.out.lt).cell 3
  have q2 := (RF.out.below BQ.out RF.out.lt).cell 2
  have q3 := (RJ.out.below BQ.out RJ.out.lt).cell 3
  simp only [List.getElem?_cons_zero, List.getElem?_cons_succ] at q1 q2 q3
  have u0 := Kl.cell (RF.out.below BQ.out RF.out.lt).lt q1
  have u1 := Kl.cell (RF.out.below BQ.out RF.out.lt).lt q2
  have u2 := Kl.cell (RJ.out.below BQ.out RJ.out.lt).lt q3
  clear q1 q2 q3
  go_wp2_with fail
  refine wp_region_below (by kernel_rfl) (by kernel_rfl) ?_
  repeat (go_big_quiet_step (fail))
  refine wpQuiet_nil ?_
  rintro _ ⟨wq, rfl⟩
  have BQ := Lib.hid (Below.andThen BQ.out wq.h (by have := BQ.out.size; have := RR.out.lt; omega))
  generalize wq.W = w2 at *
  clear u0 u1 u2
  have rJ := RJ.out.below BQ.out RJ.out.lt
  have rF := RF.out.below BQ.out RF.out.lt
  have rR := RR.out.below BQ.out RR.out.lt
  have RF2 := Lib.hid rF
  have RR2 := Lib.hid rR
  have j1 := rJ.cell 1
  have j2 := rJ.cell 2
  have j3 := rJ.cell 3
  have j4 := rJ.cell 4
  have c0 := rF.cell 0
  have c1 := rF.cell 1
  have c2 := rF.cell 2
  have c3 := rF.cell 3
  have z0 := rR.cell 0
  have z1 := rR.cell 1
  have z2 := rR.cell 2
  have z3 := rR.cell 3
  have k0 := frozen_of_row _ (w.heap.size + 1) 0 _ _ rF
  have k1 := frozen_of_row _ (w.heap.size + 1) 1 _ _ rF
  have k2 := frozen_of_row _ (w.heap.size + 1) 2 _ _ rF
  have k3 := frozen_of_row _ (w.heap.size + 1) 3 _ _ rF
  have l0 := frozen_of_row _ (w.heap.size + 1 + 1 + 1) 0 _ _ rR
  have l1 := frozen_of_row _ (w.heap.size + 1 + 1 + 1) 1 _ _ rR
  have l2 := frozen_of_row _ (w.heap.size + 1 + 1 + 1) 2 _ _ rR
  have l3 := frozen_of_row _ (w.heap.size + 1 + 1 + 1) 3 _ _ rR
  simp only [List.getElem?_cons_zero, List.getElem?_cons_succ] at j1 j2 j3 j4 c0 c1 c2 c3 z0 z1 z2 z3
  clear rJ rF rR
  go_wp2_with fail
  all_goals first | (exfalso; omega) | skip
  have hr : Row ((((((w2.setCell ⟨w.heap.size + 1, 3, none⟩ (.int .i64 0)).setCell ⟨w.heap.size + 1, 2, none⟩ (.int .i64 (f2 + f3))).setCell ⟨w.heap.size + 1 + 1 + 1, 0, none⟩ (.int .i64 f0)).setCell ⟨w.heap.size + 1 + 1 + 1, 1, none⟩ (.int .i64 f1)).setCell ⟨w.heap.size + 1 + 1 + 1, 2, none⟩ (.int .i64 (f2 + f3))).setCell ⟨w.heap.size + 1 + 1 + 1, 3, none⟩ (.int .i64 0)) (w.heap.size + 1 + 1 + 1) 77 [.int .i64 f0, .int .i64 f1, .int .i64 (f2 + f3), .int .i64 0] := by
    simpa using ((((((RR2.out.other (3) (.int .i64 0) (g' := w.heap.size + 1) (by omega)).other (2) (.int .i64 (f2 + f3)) (g' := w.heap.size + 1) (by omega)).set 0 (.int .i64 f0)).set 1 (.int .i64 f1)).set 2 (.int .i64 (f2 + f3))).set 3 (.int .i64 0))
  have v0 := hr.cell 0
  have v1 := hr.cell 1
  have v2 := hr.cell 2
  have v3 := hr.cell 3
  simp only [List.getElem?_cons_zero, List.getElem?_cons_succ] at v0 v1 v2 v3
  refine bodyPost_ret (v := .agg #[.int .i64 f0, .int .i64 f1, .int .i64 (f2 + f3), .int .i64 0]) (by simp [results, Try.results54, go_sem, v0, v1, v2, v3]) rfl ⟨rfl, ?_⟩
  exact (((((((Below.andThen B0.out BQ.out (Nat.le_refl _)).setCell (p := ⟨w.heap.size + 1, 3, none⟩) (by dsimp only; omega) (.int .i64 0)).setCell (p := ⟨w.heap.size + 1, 2, none⟩) (by dsimp only; omega) (.int .i64 (f2 + f3))).setCell (p := ⟨w.heap.size + 1 + 1 + 1, 0, none⟩) (by dsimp only; omega) (.int .i64 f0)).setCell (p := ⟨w.heap.size + 1 + 1 + 1, 1, none⟩) (by dsimp only; omega) (.int .i64 f1)).setCell (p := ⟨w.heap.size + 1 + 1 + 1, 2, none⟩) (by dsimp only; omega) (.int .i64 (f2 + f3))).setCell (p := ⟨w.heap.size + 1 + 1 + 1, 3, none⟩) (by dsimp only; omega) (.int .i64 0))
set_option maxRecDepth 100000 in
set_option maxHeartbeats 1000000 in
theorem after_3_2h (n p0 p1 p2 p3 f0 f1 f2 f3 : Int) (hf : 0 ≤ f3 ∧ f3 ≤ 12) (ht : 0 ≤ f2 ∧ f2 ≤ p2) (hp : p2 ≤ 12) (hmin : p2 - f2 < f3) (w : World) :
    Calls Try.prog 54 #[.agg #[.int .i64 n, .int .i64 p0, .int .i64 p1, .int .i64 p2, .int .i64 p3], .agg #[.int .i64 f0, .int .i64 f1, .int .i64 f2, .int .i64 f3], .agg #[.int .i64 3, .int .i64 2]] w fun e w' => e = .returned (aggI (afterF [p0, p1, p2, p3] [f0, f1, f2, f3] 3 2)) ∧ Below w.heap.size w w' := by
  obtain ⟨V, hV, rJ, rF, rS, rR, hb, hsz⟩ := after_start w [.int .i64 n, .int .i64 p0, .int .i64 p1, .int .i64 p2, .int .i64 p3] [.int .i64 f0, .int .i64 f1, .int .i64 f2, .int .i64 f3] [.int .i64 3, .int .i64 2] [.int .i64 0, .int .i64 0, .int .i64 0, .int .i64 0]
  have e1 : IntKind.i64.wrap (p2 - f2) = p2 - f2 := i64_of _ (by omega) (by omega)
  have e2 : IntKind.i64.wrap (f3 - (p2 - f2)) = f3 - (p2 - f2) := i64_of _ (by omega) (by omega)
  have e3 : IntKind.i64.wrap (f2 + (p2 - f2)) = f2 + (p2 - f2) := i64_of _ (by omega) (by omega)
  have hm : min f3 (p2 - f2) = (p2 - f2) := by omega
  have FIN : Hid (aggI (afterF [p0, p1, p2, p3] [f0, f1, f2, f3] 3 2) = .agg #[.int .i64 f0, .int .i64 f1, .int .i64 (f2 + (p2 - f2)), .int .i64 (f3 - (p2 - f2))]) := Lib.hid (by simp [afterF, aggI, encI, hm])
  rw [FIN.out]
  have HV := Lib.hid hV
  have RJ := Lib.hid rJ
  have RF := Lib.hid rF
  have RR := Lib.hid rR
  have B0 := Lib.hid hb
  have s0 := rS.cell 0
  have s1 := rS.cell 1
  simp only [List.getElem?_cons_zero, List.getElem?_cons_succ] at s0 s1
  have u0 := Kl.cell rS.lt s0
  have u1 := Kl.cell rS.lt s1
  clear hV rJ rF rS rR hb hsz s0 s1
  go_enter Try.func54, Try.ntmps54
  go_wp2_with fail
  rw [← HV.out]
  refine wp_region_below (by kernel_rfl) (by kernel_rfl) ?_
  repeat (go_big_quiet_step (fail))
  refine wpQuiet_nil ?_
  rintro _ ⟨wq, rfl⟩
  have BQ := Lib.hid wq.h
  generalize wq.W = w2 at *
  clear u0 u1
  have q1 := (RF.out.below BQ.out RF.out.lt).cell 3
  have q2 := (RF.out.below BQ.out RF.out.lt).cell 2
  have q3 := (RJ.out.below BQ.out RJ.out.lt).cell 3
  simp only [List.getElem?_cons_zero, List.getElem?_cons_succ] at q1 q2 q3
  have u0 := Kl.cell (RF.out.below BQ.out RF.out.lt).lt q1
  have u1 := Kl.cell (RF.out.below BQ.out RF.out.lt).lt q2
  have u2 := Kl.cell (RJ.out.below BQ.out RJ.out.lt).lt q3
  clear q1 q2 q3
  go_wp2_with fail
  refine wp_region_below (by kernel_rfl) (by kernel_rfl) ?_
  repeat (go_big_quiet_step (fail))
  refine wpQuiet_nil ?_
  rintro _ ⟨wq, rfl⟩
  have BQ := Lib.hid (Below.andThen BQ.out wq.h (by have := BQ.out.size; have := RR.out.lt; omega))
  generalize wq.W = w2 at *
  clear u0 u1 u2
  have rJ := RJ.out.below BQ.out RJ.out.lt
  have rF := RF.out.below BQ.out RF.out.lt
  have rR := RR.out.below BQ.out RR.out.lt
  have RF2 := Lib.hid rF
  have RR2 := Lib.hid rR
  have j1 := rJ.cell 1
  have j2 := rJ.cell 2
  have j3 := rJ.cell 3
  have j4 := rJ.cell 4
  have c0 := rF.cell 0
  have c1 := rF.cell 1
  have c2 := rF.cell 2
  have c3 := rF.cell 3
  have z0 := rR.cell 0
  have z1 := rR.cell 1
  have z2 := rR.cell 2
  have z3 := rR.cell 3
  have k0 := frozen_of_row _ (w.heap.size + 1) 0 _ _ rF
  have k1 := frozen_of_row _ (w.heap.size + 1) 1 _ _ rF
  have k2 := frozen_of_row _ (w.heap.size + 1) 2 _ _ rF
  have k3 := frozen_of_row _ (w.heap.size + 1) 3 _ _ rF
  have l0 := frozen_of_row _ (w.heap.size + 1 + 1 + 1) 0 _ _ rR
  have l1 := frozen_of_row _ (w.heap.size + 1 + 1 + 1) 1 _ _ rR
  have l2 := frozen_of_row _ (w.heap.size + 1 + 1 + 1) 2 _ _ rR
  have l3 := frozen_of_row _ (w.heap.size + 1 + 1 + 1) 3 _ _ rR
  simp only [List.getElem?_cons_zero, List.getElem?_cons_succ] at j1 j2 j3 j4 c0 c1 c2 c3 z0 z1 z2 z3
  clear rJ rF rR
  go_wp2_with fail
  all_goals first | (exfalso; omega) | skip
  have hr : Row ((((((w2.setCell ⟨w.heap.size + 1, 3, none⟩ (.int .i64 (f3 - (p2 - f2)))).setCell ⟨w.heap.size + 1, 2, none⟩ (.int .i64 (f2 + (p2 - f2)))).setCell ⟨w.heap.size + 1 + 1 + 1, 0, none⟩ (.int .i64 f0)).setCell ⟨w.heap.size + 1 + 1 + 1, 1, none⟩ (.int .i64 f1)).setCell ⟨w.heap.size + 1 + 1 + 1, 2, none⟩ (.int .i64 (f2 + (p2 - f2)))).setCell ⟨w.heap.size + 1 + 1 + 1, 3, none⟩ (.int .i64 (f3 - (p2 - f2)))) (w.heap.size + 1 + 1 + 1) 77 [.int .i64 f0, .int .i64 f1, .int .i64 (f2 + (p2 - f2)), .int .i64 (f3 - (p2 - f2))] := by
    simpa using ((((((RR2.out.other (3) (.int .i64 (f3 - (p2 - f2))) (g' := w.heap.size + 1) (by omega)).other (2) (.int .i64 (f2 + (p2 - f2))) (g' := w.heap.size + 1) (by omega)).set 0 (.int .i64 f0)).set 1 (.int .i64 f1)).set 2 (.int .i64 (f2 + (p2 - f2)))).set 3 (.int .i64 (f3 - (p2 - f2))))
  have v0 := hr.cell 0
  have v1 := hr.cell 1
  have v2 := hr.cell 2
  have v3 := hr.cell 3
  simp only [List.getElem?_cons_zero, List.getElem?_cons_succ] at v0 v1 v2 v3
  refine bodyPost_ret (v := .agg #[.int .i64 f0, .int .i64 f1, .int .i64 (f2 + (p2 - f2)), .int .i64 (f3 - (p2 - f2))]) (by simp [results, Try.results54, go_sem, v0, v1, v2, v3]) rfl ⟨rfl, ?_⟩
  exact (((((((Below.andThen B0.out BQ.out (Nat.le_refl _)).setCell (p := ⟨w.heap.size + 1, 3, none⟩) (by dsimp only; omega) (.int .i64 (f3 - (p2 - f2)))).setCell (p := ⟨w.heap.size + 1, 2, none⟩) (by dsimp only; omega) (.int .i64 (f2 + (p2 - f2)))).setCell (p := ⟨w.heap.size + 1 + 1 + 1, 0, none⟩) (by dsimp only; omega) (.int .i64 f0)).setCell (p := ⟨w.heap.size + 1 + 1 + 1, 1, none⟩) (by dsimp only; omega) (.int .i64 f1)).setCell (p := ⟨w.heap.size + 1 + 1 + 1, 2, none⟩) (by dsimp only; omega) (.int .i64 (f2 + (p2 - f2)))).setCell (p := ⟨w.heap.size + 1 + 1 + 1, 3, none⟩) (by dsimp only; omega) (.int .i64 (f3 - (p2 - f2))))
theorem after_any (n : Int) (P F : List Int) (hP : P.length = 4) (hF : F.length = 4) (hfit : ∀ i, i < 4 → 0 ≤ F.getD i 0 ∧ F.getD i 0 ≤ P.getD i 0 ∧ P.getD i 0 ≤ 12) (f t : Int) (hf : -1 ≤ f ∧ f ≤ 3) (ht : -1 ≤ t ∧ t ≤ 3) (hne : f ≠ t) (w : World) :
    Calls Try.prog 54 #[.agg (#[.int .i64 n] ++ (P.map encI).toArray), aggI F, .agg #[.int .i64 f, .int .i64 t]] w fun e w' => e = .returned (aggI (afterF P F f t)) ∧ Below w.heap.size w w' := by
  obtain ⟨p0, p1, p2, p3, rfl⟩ := agg4 P hP
  obtain ⟨f0, f1, f2, f3, rfl⟩ := agg4 F hF
  have h0 := hfit 0 (by omega)
  have h1 := hfit 1 (by omega)
  have h2 := hfit 2 (by omega)
  have h3 := hfit 3 (by omega)
  simp only [List.getD_cons_zero, List.getD_cons_succ] at h0 h1 h2 h3
  have cf : f = -1 ∨ f = 0 ∨ f = 1 ∨ f = 2 ∨ f = 3 := by omega
  have ct : t = -1 ∨ t = 0 ∨ t = 1 ∨ t = 2 ∨ t = 3 := by omega
  rcases cf with rfl | rfl | rfl | rfl | rfl <;> rcases ct with rfl | rfl | rfl | rfl | rfl
  · exact absurd rfl hne
  · exact after_s_0 n p0 p1 p2 p3 f0 f1 f2 f3 w
  · exact after_s_1 n p0 p1 p2 p3 f0 f1 f2 f3 w
  · exact after_s_2 n p0 p1 p2 p3 f0 f1 f2 f3 w
  · exact after_s_3 n p0 p1 p2 p3 f0 f1 f2 f3 w
  · exact after_0_s n p0 p1 p2 p3 f0 f1 f2 f3 w
  · exact absurd rfl hne
  · rcases Int.lt_or_le (p1 - f1) f0 with h | h
    · exact after_0_1h n p0 p1 p2 p3 f0 f1 f2 f3 ⟨h0.1, by omega⟩ ⟨h1.1, h1.2.1⟩ h1.2.2 h w
    · exact after_0_1l n p0 p1 p2 p3 f0 f1 f2 f3 ⟨h0.1, by omega⟩ ⟨h1.1, h1.2.1⟩ h1.2.2 h w
  · rcases Int.lt_or_le (p2 - f2) f0 with h | h
    · exact after_0_2h n p0 p1 p2 p3 f0 f1 f2 f3 ⟨h0.1, by omega⟩ ⟨h2.1, h2.2.1⟩ h2.2.2 h w
    · exact after_0_2l n p0 p1 p2 p3 f0 f1 f2 f3 ⟨h0.1, by omega⟩ ⟨h2.1, h2.2.1⟩ h2.2.2 h w
  · rcases Int.lt_or_le (p3 - f3) f0 with h | h
    · exact after_0_3h n p0 p1 p2 p3 f0 f1 f2 f3 ⟨h0.1, by omega⟩ ⟨h3.1, h3.2.1⟩ h3.2.2 h w
    · exact after_0_3l n p0 p1 p2 p3 f0 f1 f2 f3 ⟨h0.1, by omega⟩ ⟨h3.1, h3.2.1⟩ h3.2.2 h w
  · exact after_1_s n p0 p1 p2 p3 f0 f1 f2 f3 w
  · rcases Int.lt_or_le (p0 - f0) f1 with h | h
    · exact after_1_0h n p0 p1 p2 p3 f0 f1 f2 f3 ⟨h1.1, by omega⟩ ⟨h0.1, h0.2.1⟩ h0.2.2 h w
    · exact after_1_0l n p0 p1 p2 p3 f0 f1 f2 f3 ⟨h1.1, by omega⟩ ⟨h0.1, h0.2.1⟩ h0.2.2 h w
  · exact absurd rfl hne
  · rcases Int.lt_or_le (p2 - f2) f1 with h | h
    · exact after_1_2h n p0 p1 p2 p3 f0 f1 f2 f3 ⟨h1.1, by omega⟩ ⟨h2.1, h2.2.1⟩ h2.2.2 h w
    · exact after_1_2l n p0 p1 p2 p3 f0 f1 f2 f3 ⟨h1.1, by omega⟩ ⟨h2.1, h2.2.1⟩ h2.2.2 h w
  · rcases Int.lt_or_le (p3 - f3) f1 with h | h
    · exact after_1_3h n p0 p1 p2 p3 f0 f1 f2 f3 ⟨h1.1, by omega⟩ ⟨h3.1, h3.2.1⟩ h3.2.2 h w
    · exact after_1_3l n p0 p1 p2 p3 f0 f1 f2 f3 ⟨h1.1, by omega⟩ ⟨h3.1, h3.2.1⟩ h3.2.2 h w
  · exact after_2_s n p0 p1 p2 p3 f0 f1 f2 f3 w
  · rcases Int.lt_or_le (p0 - f0) f2 with h | h
    · exact after_2_0h n p0 p1 p2 p3 f0 f1 f2 f3 ⟨h2.1, by omega⟩ ⟨h0.1, h0.2.1⟩ h0.2.2 h w
    · exact after_2_0l n p0 p1 p2 p3 f0 f1 f2 f3 ⟨h2.1, by omega⟩ ⟨h0.1, h0.2.1⟩ h0.2.2 h w
  · rcases Int.lt_or_le (p1 - f1) f2 with h | h
    · exact after_2_1h n p0 p1 p2 p3 f0 f1 f2 f3 ⟨h2.1, by omega⟩ ⟨h1.1, h1.2.1⟩ h1.2.2 h w
    · exact after_2_1l n p0 p1 p2 p3 f0 f1 f2 f3 ⟨h2.1, by omega⟩ ⟨h1.1, h1.2.1⟩ h1.2.2 h w
  · exact absurd rfl hne
  · rcases Int.lt_or_le (p3 - f3) f2 with h | h
    · exact after_2_3h n p0 p1 p2 p3 f0 f1 f2 f3 ⟨h2.1, by omega⟩ ⟨h3.1, h3.2.1⟩ h3.2.2 h w
    · exact after_2_3l n p0 p1 p2 p3 f0 f1 f2 f3 ⟨h2.1, by omega⟩ ⟨h3.1, h3.2.1⟩ h3.2.2 h w
  · exact after_3_s n p0 p1 p2 p3 f0 f1 f2 f3 w
  · rcases Int.lt_or_le (p0 - f0) f3 with h | h
    · exact after_3_0h n p0 p1 p2 p3 f0 f1 f2 f3 ⟨h3.1, by omega⟩ ⟨h0.1, h0.2.1⟩ h0.2.2 h w
    · exact after_3_0l n p0 p1 p2 p3 f0 f1 f2 f3 ⟨h3.1, by omega⟩ ⟨h0.1, h0.2.1⟩ h0.2.2 h w
  · rcases Int.lt_or_le (p1 - f1) f3 with h | h
    · exact after_3_1h n p0 p1 p2 p3 f0 f1 f2 f3 ⟨h3.1, by omega⟩ ⟨h1.1, h1.2.1⟩ h1.2.2 h w
    · exact after_3_1l n p0 p1 p2 p3 f0 f1 f2 f3 ⟨h3.1, by omega⟩ ⟨h1.1, h1.2.1⟩ h1.2.2 h w
  · rcases Int.lt_or_le (p2 - f2) f3 with h | h
    · exact after_3_2h n p0 p1 p2 p3 f0 f1 f2 f3 ⟨h3.1, by omega⟩ ⟨h2.1, h2.2.1⟩ h2.2.2 h w
    · exact after_3_2l n p0 p1 p2 p3 f0 f1 f2 f3 ⟨h3.1, by omega⟩ ⟨h2.1, h2.2.1⟩ h2.2.2 h w
  · exact absurd rfl hne
end Go.Proofs.Ytlamppplnojpbaa
namespace Go.Proofs.Ytlamppplnojpbaa
open Go.RowKit Go.Shelf
attribute [local go_sem] Oper.semAt_some
/-- a step of n jugs -/
def stepB (n f t : Int) : Bool := decide (f ≠ t) && (decide (-1 ≤ min f t) && decide (max f t < n))
theorem two_start (w : World) (J S : List Value) : ∃ V, V = (w.alloc (.cells J.toArray 80)).alloc (.cells S.toArray 48) ∧
    Row V w.heap.size 80 J ∧ Row V (w.heap.size + 1) 48 S ∧ Below w.heap.size w V ∧ V.heap.size = w.heap.size + 2 := by
  obtain ⟨w1, h1⟩ : ∃ w1, w1 = w.alloc (.cells J.toArray 80) := ⟨_, rfl⟩
  obtain ⟨w2, h2⟩ : ∃ w2, w2 = w1.alloc (.cells S.toArray 48) := ⟨_, rfl⟩
  have s1 : w1.heap.size = w.heap.size + 1 := by rw [h1, size_al]
  have s2 : w2.heap.size = w.heap.size + 2 := by rw [h2, size_al, s1]
  have b1 : Below w.heap.size w w1 := by rw [h1]; exact Below.al (Below.refl _ _) (Nat.le_refl _) _
  have b2 : Below w1.heap.size w1 w2 := by rw [h2]; exact Below.al (Below.refl _ _) (Nat.le_refl _) _
  have r1 : Row w1 w.heap.size 80 J := by rw [h1]; exact Row.new _ _ _
  have r2 : Row w2 (w.heap.size + 1) 48 S := by rw [h2, ← s1]; exact Row.new _ _ _
  exact ⟨w2, by rw [h2, h1], r1.below b2 r1.lt, r2, Below.andThen b1 b2 (Nat.le_refl _), s2⟩
set_option maxRecDepth 100000 in
set_option maxHeartbeats 1000000 in
theorem isStep_any (n p0 p1 p2 p3 f t : Int) (w : World) :
    Calls Try.prog 55 #[.agg #[.int .i64 n, .int .i64 p0, .int .i64 p1, .int .i64 p2, .int .i64 p3], .agg #[.int .i64 f, .int .i64 t]] w fun e w' => e = .returned (.bool (stepB n f t)) ∧ Below w.heap.size w w' := by
  obtain ⟨V, hV, rJ, rS, hb, hsz⟩ := two_start w [.int .i64 n, .int .i64 p0, .int .i64 p1, .int .i64 p2, .int .i64 p3] [.int .i64 f, .int .i64 t]
  have HV := Lib.hid hV
  have RJ := Lib.hid rJ
  have B0 := Lib.hid hb
  have s0 := rS.cell 0
  have s1 := rS.cell 1
  simp only [List.getElem?_cons_zero, List.getElem?_cons_succ] at s0 s1
  have u0 := Kl.cell rS.lt s0
  have u1 := Kl.cell rS.lt s1
  obtain ⟨E, hE⟩ : ∃ E, stepB n f t = E := ⟨_, rfl⟩
  rw [hE]
  have HE := Lib.hid hE
  clear hV rJ rS hb hsz s0 s1 hE
  go_enter Try.func55, Try.ntmps55
  go_wp2_with fail
  rw [← HV.out]
  refine wp_region_below (by kernel_rfl) (by kernel_rfl) ?_
  repeat (go_big_quiet_step (fail))
  refine wpQuiet_nil ?_
  rintro _ ⟨wq, rfl⟩
  have BQ := Lib.hid wq.h
  generalize wq.W = w2 at *
  clear u0 u1
  have j0 := (RJ.out.below BQ.out RJ.out.lt).cell 0
  simp only [List.getElem?_cons_zero] at j0
  have BZ := Lib.hid (Below.andThen B0.out BQ.out (Nat.le_refl _))
  go_wp2_with fail
  all_goals (
    go_ret
    refine ⟨ret_bool ?_, BZ.out⟩
    rw [← HE.out]
    unfold stepB
    clear HE HV RJ B0 BQ j0 BZ
    rw [Bool.eq_iff_iff]
    simp only [Bool.and_eq_true, decide_eq_true_eq, bne_iff_ne, Bool.false_eq_true, false_iff, ne_eq]
    omega)
set_option maxHeartbeats 1000000 in
theorem index_any (zs : List Int) (x : Int) (b o c : Nat) (w : World) (hi : IntsAt w b o zs) (hb : zs = [] ∨ b < w.heap.size) (hl : zs.length ≤ 1000) :
    Calls Try.prog 76 #[.slice (some ⟨b, o, none⟩) zs.length c, .int .i64 x] w fun e w' => ∃ i : Int, e = .returned (.int .i64 i) ∧ (0 ≤ i ↔ x ∈ zs) ∧ Below w.heap.size w w' := by
  have HI := Lib.hid hi
  clear hi
  go_enter Try.func76, Try.ntmps76
  go_wp2_with fail
  go_loopw [8] (fun i wr => ∃ k : Nat, k ≤ zs.length ∧ i = .int .i64 (k : Int) ∧ Hid (Below w.heap.size w wr) ∧ Hid (∀ j, j < k → zs.getD j 0 ≠ x)) (fun i _ => zs.length - (intOf i).toNat)
  case atStart => exact ⟨0, by omega, rfl, Lib.hid (Below.refl _ _), Lib.hid (fun j hj => by omega)⟩
  case round =>
    obtain ⟨k, hk, rfl, HB, HK⟩ := hrel
    by_cases hlt : k < zs.length
    · have hd : decide ((k : Int) < (zs.length : Int)) = true := decide_eq_true (by omega)
      have hbl : b < w.heap.size := hb.resolve_left (fun e => by rw [e] at hlt; simp at hlt)
      have hx := below_at HB.out hbl (HI.out.at_ k hlt)
      have HM := Lib.hid (List.getElem_mem hlt)
      have HZ := Lib.hid (getD_lt hlt)
      generalize zs[k] = z at *
      by_cases hz : x = z
      · subst hz
        clear HK
        go_wp2_with fail
        go_ret
        exact ⟨(k : Int), rfl, ⟨fun _ => HM.out, fun _ => by omega⟩, HB.out⟩
      · have hz2 : (x == z) = false := by simp [hz]
        have hz3 : decide (x = z) = false := decide_eq_false hz
        have HNE := Lib.hid (show ∀ j, j < k + 1 → zs.getD j 0 ≠ x from fun j hj => by
          rcases Nat.lt_or_ge j k with h | h
          · exact HK.out j h
          · rw [show j = k by omega, HZ.out]; exact fun e => hz e.symm)
        clear HK
        go_wp2_with fail
        go_roundw
        case rel => exact ⟨k + 1, by omega, by simp, HB, HNE⟩
        case measure => simp [intOf]; omega
    · have hd : decide ((k : Int) < (zs.length : Int)) = false := decide_eq_false (by omega)
      have fin := Lib.hid (show x ∉ zs from fun hx => by
        obtain ⟨j, hj, e⟩ := List.getElem_of_mem hx
        exact HK.out j (by omega) (by rw [getD_lt hj, e]))
      clear HK
      go_wp2_with fail
      go_ret
      exact ⟨-1, rfl, ⟨fun h => by omega, fun h => absurd h fin.out⟩, HB.out⟩
set_option maxHeartbeats 1000000 in
theorem contains_any (zs : List Int) (x : Int) (b o c : Nat) (w : World) (hi : IntsAt w b o zs) (hb : zs = [] ∨ b < w.heap.size) (hl : zs.length ≤ 1000) :
    Calls Try.prog 74 #[.slice (some ⟨b, o, none⟩) zs.length c, .int .i64 x] w fun e w' => e = .returned (.bool (decide (x ∈ zs))) ∧ Below w.heap.size w w' := by
  have H := Lib.hid (index_any zs x b o c w hi hb hl)
  clear hi
  go_enter Try.func74, Try.ntmps74
  go_wp2_with fail
  refine H.out.mono ?_
  rintro e w1 ⟨i, rfl, h, hb1⟩
  have HE := Lib.hid (show decide (0 ≤ i) = decide (x ∈ zs) from decide_eq_decide.2 h)
  have B1 := Lib.hid hb1
  clear h hb1 H
  go_wp2_with fail
  go_ret
  exact ⟨ret_bool HE.out, B1.out⟩
/-- one of the jugs has just that amount -/
def holdsB (n : Nat) (F : List Int) (x : Int) : Bool := decide (x ∈ F.take n)
theorem cont4 (n : Nat) (F : List Int) (hF : n ≤ F.length) (hl : F.length ≤ 1000) (x : Int) (g c : Nat) (V : World) (h : Row V g 77 (F.map encI)) :
    Calls Try.prog 74 #[.slice (some ⟨g, 0, none⟩) n c, .int .i64 x] V fun e w' => e = .returned (.bool (holdsB n F x)) ∧ Below V.heap.size V w' := by
  have hlen : (F.take n).length = n := by rw [List.length_take]; omega
  have hi : IntsAt V g 0 (F.take n) := ⟨.inr h.lt, fun i hi => by
    have hi' : i < F.length := by rw [hlen] at hi; omega
    rw [Nat.zero_add, h.cell i, List.getElem?_map, List.getElem?_eq_getElem hi', List.getElem_take]; rfl⟩
  have := contains_any (F.take n) x g 0 c V hi (.inr h.lt) (by omega)
  rw [hlen] at this
  exact this
theorem fill_start (w : World) (J F : List Value) : ∃ V, V = (w.alloc (.cells J.toArray 80)).alloc (.cells F.toArray 77) ∧ Row V (w.heap.size + 1) 77 F ∧ Below w.heap.size w V := by
  obtain ⟨w1, h1⟩ : ∃ w1, w1 = w.alloc (.cells J.toArray 80) := ⟨_, rfl⟩
  obtain ⟨w2, h2⟩ : ∃ w2, w2 = w1.alloc (.cells F.toArray 77) := ⟨_, rfl⟩
  have s1 : w1.heap.size = w.heap.size + 1 := by rw [h1, size_al]
  have b1 : Below w.heap.size w w1 := by rw [h1]; exact Below.al (Below.refl _ _) (Nat.le_refl _) _
  have b2 : Below w1.heap.size w1 w2 := by rw [h2]; exact Below.al (Below.refl _ _) (Nat.le_refl _) _
  have r2 : Row w2 (w.heap.size + 1) 77 F := by rw [h2, ← s1]; exact Row.new _ _ _
  exact ⟨w2, by rw [h2, h1], r2, Below.andThen b1 b2 (Nat.le_refl _)⟩
set_option maxRecDepth 100000 in
set_option maxHeartbeats 1000000 in
theorem holds_any (n : Nat) (hn : n ≤ 4) (p0 p1 p2 p3 f0 f1 f2 f3 x : Int) (w : World) :
    Calls Try.prog 67 #[.agg #[.int .i64 (n : Int), .int .i64 p0, .int .i64 p1, .int .i64 p2, .int .i64 p3], .agg #[.int .i64 f0, .int .i64 f1, .int .i64 f2, .int .i64 f3], .int .i64 x] w fun e w' => e = .returned (.bool (holdsB n [f0, f1, f2, f3] x)) ∧ Below w.heap.size w w' := by
  obtain ⟨V, hV, rF, hb⟩ := fill_start w [.int .i64 (n : Int), .int .i64 p0, .int .i64 p1, .int .i64 p2, .int .i64 p3] [.int .i64 f0, .int .i64 f1, .int .i64 f2, .int .i64 f3]
  have H := Lib.hid (cont4 n [f0, f1, f2, f3] (by simpa using hn) (by simp) x (w.heap.size + 1) 4 V rF)
  have B0 := Lib.hid hb
  have HV := Lib.hid hV
  clear hV rF hb
  have cn : n = 0 ∨ n = 1 ∨ n = 2 ∨ n = 3 ∨ n = 4 := by omega
  clear hn
  rcases cn with rfl | rfl | rfl | rfl | rfl
  all_goals (
    go_enter Try.func67, Try.ntmps67
    go_wp2_with fail
    have hv := HV.out
    refine Calls.mono (by have h := H.out; rw [hv] at h; exact h) ?_
    rintro e w1 ⟨rfl, hb⟩
    rw [← hv] at hb
    have B1 := Lib.hid (Below.andThen B0.out hb (Nat.le_refl _))
    clear hb hv H HV B0
    go_wp2_with fail
    go_ret
    exact ⟨rfl, B1.out⟩)
end Go.Proofs.Ytlamppplnojpbaa
namespace Go.Proofs.Ytlamppplnojpbaa
open Go.RowKit Go.Shelf
attribute [local go_sem] Oper.semAt_some
theorem filter_set : ∀ (bs : List Bool) (j : Nat), bs[j]? = some false → ((bs.set j true).filter (! ·)).length + 1 = (bs.filter (! ·)).length
  | [], j, h => by simp at h
  | b :: bs, 0, h => by simp at h; subst h; simp
  | b :: bs, j + 1, h => by
    have := filter_set bs j (by simpa using h)
    cases b <;> simp at this ⊢ <;> omega
section
variable {F : Fence} {n : Nat} {P : Program} {Q : Exit → Act → World → Prop}
theorem uponIn_then {o : Oper} {a : Act} {w : World} {next K : Act → World → Prop} (h : o.wpIn F n P a w next (Exit.then K Q)) : o.wpIn F n P a w next Q := by
  unfold Oper.wpIn at *
  refine ⟨h.1, ?_⟩
  have h := h.2
  generalize (o.semAt F.round a.eval).run P w = r at *
  cases r with
  | ok x w' => cases x <;> exact h
  | halt x w' => cases x <;> exact h
theorem getD_toArray (l : List Bool) (j : Nat) (d : Bool) : l.toArray.getD j d = l[j]?.getD d := by
  simp [Array.getD_eq_getD_getElem?]
/-- each operation waits for earlier ones alone -/
def waitsB (l : List Oper) : Bool := (List.range l.length).all fun i => ((l[i]?).map fun o => o.after.all fun e => decide (e.on < i)).getD true
def noGuardB (l : List Oper) : Bool := l.all fun o => o.guard.isNone
def onB (l : List Oper) (i j : Nat) : Bool := ((l[i]?).map fun o => o.after.any fun e => e.on == j && Region.binds .any e).getD false
/-- each of the first m operations is waited for by a later one, the m-th included -/
def feedsB (l : List Oper) (m : Nat) : Bool := (List.range m).all fun j => (List.range (m + 1)).any fun i => decide (j < i) && onB l i j
/-- behind the m-th each waits for the one ahead of it -/
def chainB (l : List Oper) (m : Nat) : Bool := (List.range l.length).all fun i => decide (i ≤ m) || onB l i (i - 1)
theorem onB_spec {l : List Oper} {i j : Nat} (h : onB l i j = true) {o : Oper} (ho : l[i]? = some o) : ∃ e ∈ o.after, Region.binds .any e = true ∧ e.on = j := by
  unfold onB at h
  rw [ho] at h
  simp only [Option.map_some, Option.getD_some, Array.any_eq_true'] at h
  obtain ⟨e, he, h2⟩ := h
  simp only [Bool.and_eq_true, beq_iff_eq] at h2
  exact ⟨e, he, h2.2, h2.1⟩
theorem wpOpIn_of_cut {l : List Oper} {m i : Nat} {K K' K2 : Act → World → Prop} {a : Act} {w : World} (hg : noGuardB l = true) (hi : i < m) (hm : m ≤ l.length) (hK : ∀ a w, K a w → K' a w)
    (h : wpOpIn F n P (l.take m).toArray (Exit.then K2 Q) i K a w) : wpOpIn F n P l.toArray Q i K' a w := by
  have ho : l[i]? = some l[i] := List.getElem?_eq_getElem (by omega)
  have h1 : (l.take m).toArray[i]? = some l[i] := by simp [hi]
  have h2 : l.toArray[i]? = some l[i] := by simp
  have hg1 : (l[i]'(by omega)).guard = none := by
    unfold noGuardB at hg
    rw [List.all_eq_true] at hg
    have := hg _ (List.getElem_mem (show i < l.length by omega))
    simpa using this
  unfold wpOpIn at *
  simp only [h1] at h
  simp only [h2]
  simp only [Region.wanted, hg1, if_true] at h ⊢
  exact Oper.wpIn_mono hK (uponIn_then h)
/-- the operations behind the m-th come one after the other -/
theorem wpAnyIn_tail {l : List Oper} (hd : waitsB l = true) (m : Nat) (hc : chainB l m = true) : ∀ (r k : Nat) (a : Act) (w : World), m ≤ k → k + r = l.length →
    wpOpsIn F n P l.toArray Q (List.range' k r) a w → wpAnyIn F n P .any l.toArray Q r (List.replicate k true ++ List.replicate r false).toArray a w
  | 0, k, a, w, hm, hk, h => by
    have h' : Q .normal a w := by simpa [wpOpsIn] using h
    refine ⟨?_, h'⟩
    cases hr : Region.ready .any l.toArray (List.replicate k true ++ List.replicate 0 false).toArray with
    | nil => rfl
    | cons j js =>
      have hj : j ∈ Region.ready .any l.toArray (List.replicate k true ++ List.replicate 0 false).toArray := by rw [hr]; exact List.mem_cons_self
      obtain ⟨h1, o, h2, _⟩ := mem_ready.1 hj
      have hlt : j < l.length := by have := (List.getElem?_eq_some_iff.1 (by simpa using h2 : l[j]? = some o)).1; exact this
      simp [Array.getD, show j < k by omega] at h1
  | r + 1, k, a, w, hm, hk, h => by
    have hget : ∀ j d, (List.replicate k true ++ List.replicate (r + 1) false).toArray.getD j d = if j < k then true else if j < l.length then false else d := fun j d => by
      rw [getD_toArray, List.getElem?_append, List.length_replicate, List.getElem?_replicate, List.getElem?_replicate]
      by_cases h1 : j < k
      · simp [h1]
      · by_cases h2 : j < l.length
        · simp [h1, h2, show j - k < r + 1 by omega]
        · simp [h1, h2, show ¬ j - k < r + 1 by omega]
    have hw := hd
    unfold waitsB at hw
    rw [List.all_eq_true] at hw
    have hready : ∀ j, j ∈ Region.ready .any l.toArray (List.replicate k true ++ List.replicate (r + 1) false).toArray ↔ j = k := fun j => by
      rw [mem_ready]
      constructor
      · rintro ⟨h1, o, h2, h3⟩
        have h2' : l[j]? = some o := by simpa using h2
        have hlt := (List.getElem?_eq_some_iff.1 h2').1
        rw [hget] at h1
        have hjk : ¬ j < k := fun h => by simp [h] at h1
        false_or_by_contra
        rename_i hne
        have hch := hc
        unfold chainB at hch
        rw [List.all_eq_true] at hch
        have := hch j (List.mem_range.2 hlt)
        simp only [Bool.or_eq_true, decide_eq_true_eq] at this
        rcases this with h | h
        · omega
        · obtain ⟨e, he, hb, hon⟩ := onB_spec h h2'
          have := h3 e he hb
          rw [hget, hon] at this
          have h5 : ¬ j - 1 < k := by omega
          simp [h5] at this
      · rintro rfl
        have hlt : j < l.length := by omega
        refine ⟨by rw [hget]; simp [hlt], l[j], by simp [hlt], fun e he hb => ?_⟩
        have h1 := hw j (List.mem_range.2 hlt)
        rw [List.getElem?_eq_getElem hlt] at h1
        simp only [Option.map_some, Option.getD_some] at h1
        have h2 := of_decide_eq_true ((Array.all_eq_true'.1 h1) e he)
        rw [hget]; simp [h2]
    refine ⟨fun hr => ?_, fun j hj => ?_⟩
    · have := (hready k).2 rfl
      rw [hr] at this; cases this
    · obtain rfl := (hready j).1 hj
      rw [List.range'_succ, wpOpsIn_cons] at h
      refine wpOpIn_mono (fun a' w' h' => ?_) h
      have := wpAnyIn_tail hd m hc r (j + 1) a' w' (by omega) (by omega) h'
      have e : (List.replicate j true ++ List.replicate (r + 1) false).toArray.setIfInBounds j true = (List.replicate (j + 1) true ++ List.replicate r false).toArray := by
        rw [List.setIfInBounds_toArray, List.set_append, if_neg (by simp), List.replicate_succ (n := r)]
        simp [List.replicate_succ']
      rw [e]; exact this
set_option maxHeartbeats 1600000 in
/-- **a region whose first m operations all come ahead of the rest, which come one after the other** -/
theorem wpAnyIn_cut {l : List Oper} (m : Nat) (hm : m < l.length) (hg : noGuardB l = true) (hd : waitsB l = true) (hf : feedsB l m = true) (hc : chainB l m = true) :
    ∀ (fuel : Nat) (bs : List Bool) (a : Act) (w : World), bs.length = m → (bs.filter (! ·)).length ≤ fuel →
      (∀ i o, l[i]? = some o → bs.getD i false = true → ∀ e ∈ o.after, Region.binds .any e = true → bs.getD e.on false = true) →
      wpAnyIn F n P .any (l.take m).toArray (Exit.then (wpOpsIn F n P l.toArray Q (List.range' m (l.length - m))) Q) fuel bs.toArray a w →
      wpAnyIn F n P .any l.toArray Q (fuel + (l.length - m)) (bs ++ List.replicate (l.length - m) false).toArray a w := by
  have hw := hd
  unfold waitsB at hw
  rw [List.all_eq_true] at hw
  -- what waits for what
  have hwait : ∀ i (hi : i < l.length), ∀ e ∈ l[i].after, e.on < i := fun i hi e he => by
    have h1 := hw i (List.mem_range.2 hi)
    rw [List.getElem?_eq_getElem hi] at h1
    simp only [Option.map_some, Option.getD_some] at h1
    exact of_decide_eq_true ((Array.all_eq_true'.1 h1) e he)
  have hfeed : ∀ j, j < m → ∃ i, j < i ∧ i ≤ m ∧ ∃ o, l[i]? = some o ∧ ∃ e ∈ o.after, Region.binds .any e = true ∧ e.on = j := fun j hj => by
    have h1 := hf
    unfold feedsB at h1
    rw [List.all_eq_true] at h1
    have h2 := h1 j (List.mem_range.2 hj)
    rw [List.any_eq_true] at h2
    obtain ⟨i, hi, h3⟩ := h2
    simp only [Bool.and_eq_true, decide_eq_true_eq] at h3
    have hi2 := List.mem_range.1 hi
    exact ⟨i, h3.1, by omega, l[i]'(by omega), List.getElem?_eq_getElem (by omega), onB_spec h3.2 (List.getElem?_eq_getElem (by omega))⟩
  have hgetD : ∀ (bs : List Bool), bs.length = m → ∀ j d, (bs ++ List.replicate (l.length - m) false).toArray.getD j d = if j < m then bs.getD j false else if j < l.length then false else d := fun bs hl j d => by
    have h0 : m + (l.length - m) = l.length := by omega
    rw [getD_toArray, List.getElem?_append, hl, List.getElem?_replicate, List.getD_eq_getElem?_getD]
    by_cases h1 : j < m
    · simp [h1, show j < bs.length by omega]
    · by_cases h2 : j < l.length
      · simp [h1, h2, show j - m < l.length - m by omega]
      · simp [h1, h2, show ¬ j - m < l.length - m by omega]
  have hgetP : ∀ (bs : List Bool), bs.length = m → ∀ j d, bs.toArray.getD j d = if j < m then bs.getD j false else d := fun bs hl j d => by
    rw [getD_toArray, List.getD_eq_getElem?_getD]
    by_cases h1 : j < m
    · simp [h1, show j < bs.length by omega]
    · simp [h1, show ¬ j < bs.length by omega]
  -- the m-th waits for all
  have hall : ∀ (bs : List Bool), bs.length = m → (∀ i o, l[i]? = some o → bs.getD i false = true → ∀ e ∈ o.after, Region.binds .any e = true → bs.getD e.on false = true) →
      (∀ e ∈ (l[m]'hm).after, Region.binds .any e = true → bs.getD e.on false = true) → bs = List.replicate m true := fun bs hl hcl hmm => by
    have key : ∀ d j, m - j ≤ d → j < m → bs.getD j false = true := by
      intro d
      induction d with
      | zero => intro j h1 h2; omega
      | succ d ih =>
        intro j h1 h2
        obtain ⟨i, h3, h4, o, ho, e, he, hb, rfl⟩ := hfeed j h2
        by_cases h5 : i = m
        · subst h5
          rw [List.getElem?_eq_getElem hm] at ho; cases ho
          exact hmm e he hb
        · exact hcl i o ho (ih i (by omega) (by omega)) e he hb
    rw [List.eq_replicate_iff]
    refine ⟨hl, fun b hb => ?_⟩
    obtain ⟨j, hj, rfl⟩ := List.getElem_of_mem hb
    have := key m j (by omega) (by omega)
    simpa [hj] using this
  -- what is ready here and there
  have hrd : ∀ (bs : List Bool), bs.length = m → ∀ j, j < m → (j ∈ Region.ready .any l.toArray (bs ++ List.replicate (l.length - m) false).toArray ↔ j ∈ Region.ready .any (l.take m).toArray bs.toArray) := fun bs hl j hj => by
    have hjl : j < l.length := by omega
    have e1 : l.toArray[j]? = some l[j] := by simp [hjl]
    have e2 : (l.take m).toArray[j]? = some l[j] := by simp [hj, hjl]
    rw [mem_ready, mem_ready, hgetD bs hl, hgetP bs hl, e1, e2]
    simp only [hj, if_true, Option.some.injEq, exists_eq_left']
    constructor
    · rintro ⟨h1, h2⟩
      refine ⟨h1, fun e he hb => ?_⟩
      have := h2 e he hb
      rw [hgetD bs hl] at this
      have h3 := hwait j hjl e he
      rw [hgetP bs hl]
      simpa [show e.on < m by omega] using this
    · rintro ⟨h1, h2⟩
      refine ⟨h1, fun e he hb => ?_⟩
      have := h2 e he hb
      rw [hgetP bs hl] at this
      have h3 := hwait j hjl e he
      rw [hgetD bs hl]
      simpa [show e.on < m by omega] using this
  have hdone : ∀ (bs : List Bool), bs.length = m → (∀ i o, l[i]? = some o → bs.getD i false = true → ∀ e ∈ o.after, Region.binds .any e = true → bs.getD e.on false = true) →
      bs ≠ List.replicate m true → ∃ j, j < m ∧ j ∈ Region.ready .any (l.take m).toArray bs.toArray := fun bs hl hcl hne => by
    have hex : ∃ b ∈ bs, (!b) = true := by
      false_or_by_contra
      rename_i hno
      refine hne (List.eq_replicate_iff.2 ⟨hl, fun b hb => ?_⟩)
      cases b with
      | true => rfl
      | false => exact absurd ⟨false, hb, rfl⟩ hno
    have hlt : bs.findIdx (! ·) < bs.length := List.findIdx_lt_length.2 hex
    have hf0 : bs[bs.findIdx (! ·)] = false := by have := List.findIdx_getElem (w := hlt); simpa using this
    have hlt2 : bs.findIdx (! ·) < l.length := by omega
    refine ⟨bs.findIdx (! ·), by omega, mem_ready.2 ⟨by rw [hgetP bs hl]; simp [show bs.findIdx (! ·) < m by omega, hlt, hf0], l[bs.findIdx (! ·)], by simp [show bs.findIdx (! ·) < m by omega, hlt2], fun e he _ => ?_⟩⟩
    have h3 := hwait _ hlt2 e he
    have h4 : e.on < bs.length := by omega
    have h5 := List.not_of_lt_findIdx h3
    rw [hgetP bs hl]
    simp [show e.on < m by omega, h4]
    simpa using h5
  -- at the end of the first part
  have hend : ∀ (fuel : Nat) (a : Act) (w : World), wpAnyIn F n P .any (l.take m).toArray (Exit.then (wpOpsIn F n P l.toArray Q (List.range' m (l.length - m))) Q) fuel (List.replicate m true).toArray a w →
      wpAnyIn F n P .any l.toArray Q (fuel + (l.length - m)) (List.replicate m true ++ List.replicate (l.length - m) false).toArray a w := fun fuel a w h => by
    have hnil : Region.ready .any (l.take m).toArray (List.replicate m true).toArray = [] := by
      cases hr : Region.ready .any (l.take m).toArray (List.replicate m true).toArray with
      | nil => rfl
      | cons j js =>
        have hj : j ∈ Region.ready .any (l.take m).toArray (List.replicate m true).toArray := by rw [hr]; exact List.mem_cons_self
        obtain ⟨h1, o, h2, _⟩ := mem_ready.1 hj
        have hlt : j < m := by
          have := (List.getElem?_eq_some_iff.1 (by simpa using h2 : (l.take m)[j]? = some o)).1
          rw [List.length_take] at this; omega
        rw [hgetP _ (by simp)] at h1
        simp [hlt] at h1
    have hQ : wpOpsIn F n P l.toArray Q (List.range' m (l.length - m)) a w := by
      cases fuel with
      | zero => exact h.2
      | succ f => exact h.1 hnil
    have := wpAnyIn_tail hd m hc (l.length - m) m a w (Nat.le_refl _) (by omega) hQ
    -- more fuel does no harm
    have more : ∀ (r d : Nat) (ls : Array Bool) (a : Act) (w : World), wpAnyIn F n P .any l.toArray Q r ls a w → wpAnyIn F n P .any l.toArray Q (d + r) ls a w := by
      intro r
      induction r with
      | zero =>
        intro d ls a w h
        cases d with
        | zero => exact h
        | succ d => exact ⟨fun _ => h.2, fun i hi => by rw [h.1] at hi; cases hi⟩
      | succ r ih =>
        intro d ls a w h
        exact ⟨h.1, fun i hi => wpOpIn_mono (fun a' w' h' => ih d _ a' w' h') (h.2 i hi)⟩
    exact more _ fuel _ _ _ this
  intro fuel
  induction fuel with
  | zero =>
    intro bs a w hl hc0 hcl h
    have hall2 : bs = List.replicate m true := by
      false_or_by_contra
      rename_i hne
      obtain ⟨j, _, hj⟩ := hdone bs hl hcl hne
      rw [h.1] at hj; cases hj
    subst hall2
    exact hend 0 a w h
  | succ fuel ih =>
    intro bs a w hl hc0 hcl h
    by_cases hall2 : bs = List.replicate m true
    · subst hall2; exact hend _ a w h
    · rw [Nat.succ_add]
      refine ⟨fun hr => ?_, fun j hj => ?_⟩
      · obtain ⟨j, hj, hj2⟩ := hdone bs hl hcl hall2
        rw [← hrd bs hl j hj, hr] at hj2; cases hj2
      · obtain ⟨h1, o, h2, h3⟩ := mem_ready.1 hj
        have h2' : l[j]? = some o := by simpa using h2
        have hjl := (List.getElem?_eq_some_iff.1 h2').1
        by_cases hjm : j < m
        · have hset : (bs ++ List.replicate (l.length - m) false).toArray.setIfInBounds j true = (bs.set j true ++ List.replicate (l.length - m) false).toArray := by
            rw [List.setIfInBounds_toArray, List.set_append, if_pos (by omega)]
          rw [hset]
          have hb : bs[j]? = some false := by
            rw [hgetD bs hl] at h1
            rw [List.getElem?_eq_getElem (by omega)]
            simp [hjm, hl] at h1
            rw [h1]
          refine wpOpIn_of_cut hg hjm (by omega) (fun a' w' h' => ?_) (h.2 j ((hrd bs hl j hjm).1 hj))
          refine ih (bs.set j true) a' w' (by simpa using hl) ?_ ?_ ?_
          · have := filter_set bs j hb; omega
          · intro i o' ho' hi e he hbe
            have hse : ∀ x, bs.getD x false = true → (bs.set j true).getD x false = true := fun x hx => by
              rw [List.getD_eq_getElem?_getD] at hx ⊢
              rw [List.getElem?_set]
              by_cases hjx : j = x
              · subst hjx
                rw [if_pos rfl, if_pos (by omega)]; rfl
              · rw [if_neg hjx]; exact hx
            by_cases hij : i = j
            · subst hij
              rw [h2'] at ho'; cases ho'
              have := h3 e he hbe
              rw [hgetD bs hl] at this
              have h5 := hwait i hjl
              rw [List.getElem?_eq_getElem hjl] at h2'; cases h2'
              have h6 := h5 e he
              exact hse _ (by simpa [show e.on < m by omega] using this)
            · refine hse _ (hcl i o' ho' ?_ e he hbe)
              rw [List.getD_eq_getElem?_getD, List.getElem?_set_ne (Ne.symm hij)] at hi
              rw [List.getD_eq_getElem?_getD]; exact hi
          · rw [List.setIfInBounds_toArray] at h'; exact h'
        · exfalso
          have hclm : ∀ e ∈ (l[m]'hm).after, Region.binds .any e = true → bs.getD e.on false = true := fun e he hb => by
            by_cases hjm2 : j = m
            · subst hjm2
              rw [List.getElem?_eq_getElem hjl] at h2'; cases h2'
              have := h3 e he hb
              rw [hgetD bs hl] at this
              have h6 := hwait j hjl e he
              simpa [h6] using this
            · have hch := hc
              unfold chainB at hch
              rw [List.all_eq_true] at hch
              have := hch j (List.mem_range.2 hjl)
              simp only [Bool.or_eq_true, decide_eq_true_eq] at this
              rcases this with h | h
              · omega
              · obtain ⟨e', he', hb', hon⟩ := onB_spec h h2'
                have := h3 e' he' hb'
                rw [hgetD bs hl, hon] at this
                simp [show ¬ j - 1 < m by omega] at this
          exact hall2 (hall bs hl hcl hclm)
/-- **A REGION THAT DRAWS ITS ORDER: its first m operations are quiet, the rest, behind all of them, comes one after the other.** -/
theorem wpIn_region_cut {id : Nat} {a : Act} {w : World} {l : List Oper} {C : World → Prop} (m : Nat) (hro : F.round = none) (hpm : P.follows .mixedOrders = true)
    (hck : (decide (m < l.length) && (noGuardB l && (waitsB l && (feedsB l m && (chainB l m && Region.lexB .any (l.take m).toArray))))) = true) (hC : C w.drew)
    (h : wpQuietIn F n P (l.take m).toArray C (fun a' => ∀ w', C w' → wpListIn F n P l.toArray Q (l.drop m) a' w') (l.take m) a) : (Code.region id l.toArray true).wpIn F n P Q a w := by
  simp only [Bool.and_eq_true, decide_eq_true_eq] at hck
  obtain ⟨hm, hg, hd, hf, hc, hB⟩ := hck
  simp only [Region.lexB, Bool.and_eq_true] at hB
  refine wpIn_region_any hpm ?_
  have hlen : (l.take m).length = m := by rw [List.length_take]; omega
  have h1 := wpAnyQIn_lex (F := F) (n := n) (C := C) (md := .any) hB.1 (l.take m) 0 (Array.replicate (l.take m).toArray.size false) a (by simp) (by simpa using hB.2) h
  have h2 := wpAnyIn_of_quiet (Q' := Exit.then (wpOpsIn F n P l.toArray Q (List.range' m (l.length - m))) Q) hro (fun a w' hw' hq => by
    show wpOpsIn F n P l.toArray Q (List.range' m (l.length - m)) a w'
    have e := wpOpsIn_eq_wpListIn (F := F) (n := n) (P := P) (Q := Q) (ops := l.toArray) (l.drop m) m (fun j => by simp)
    rw [List.length_drop] at e
    rw [e]; exact hq w' hw') _ _ _ w.drew hC h1
  have e1 : Array.replicate (l.take m).toArray.size false = (List.replicate m false).toArray := by simp [hlen]
  have e2 : (l.take m).length = m := hlen
  rw [e1, e2] at h2
  have h3 := wpAnyIn_cut m hm hg hd hf hc m (List.replicate m false) a w.drew (by simp) (by simp) (fun i o _ hi => by
    exfalso
    rw [List.getD_eq_getElem?_getD] at hi
    by_cases h : i < m <;> simp [h] at hi) h2
  have e3 : m + (l.length - m) = l.length := by omega
  have e4 : (List.replicate m false ++ List.replicate (l.length - m) false) = List.replicate l.length false := by rw [List.replicate_append_replicate, e3]
  rw [e3, e4] at h3
  simpa using h3
end
end Go.Proofs.Ytlamppplnojpbaa
namespace Go.Proofs.Ytlamppplnojpbaa
open Go.RowKit Go.Shelf
attribute [local go_sem] Oper.semAt_some
/-- the blocks b and Bs lie as they lay -/
def Keeps2 (b Bs : Nat) (W W' : World) : Prop := W.heap.size ≤ W'.heap.size ∧ W'.heap[b]? = W.heap[b]? ∧ W'.heap[Bs]? = W.heap[Bs]?
theorem Keeps2.refl (b Bs : Nat) (W : World) : Keeps2 b Bs W W := ⟨Nat.le_refl _, rfl, rfl⟩
theorem Keeps2.trans {b Bs : Nat} {A B C : World} (h : Keeps2 b Bs A B) (k : Keeps2 b Bs B C) : Keeps2 b Bs A C := ⟨Nat.le_trans h.1 k.1, k.2.1.trans h.2.1, k.2.2.trans h.2.2⟩
theorem Keeps2.of_below {b Bs B : Nat} {W W' : World} (h : Below B W W') (h1 : b < B) (h2 : Bs < B) : Keeps2 b Bs W W' := ⟨h.size, h.block b h1, h.block Bs h2⟩
theorem Keeps2.put {b Bs l : Nat} (h1 : b < l) (h2 : Bs < l) (W : World) (o : Obj) : Keeps2 b Bs W (W.putObj l o) :=
  ⟨by simp, World.putObj_heap_other (by omega), World.putObj_heap_other (by omega)⟩
theorem Keeps2.cell2 {b Bs o : Nat} {W W' : World} (h : Keeps2 b Bs W W') {v : Value} (hv : W.cell? ⟨Bs, o, none⟩ = some v) : W'.cell? ⟨Bs, o, none⟩ = some v :=
  (World.cell?_of_block (w := W) (a := ⟨Bs, o, none⟩) h.2.2).trans hv
theorem Keeps2.cell1 {b Bs o : Nat} {W W' : World} (h : Keeps2 b Bs W W') {v : Value} (hv : W.cell? ⟨b, o, none⟩ = some v) : W'.cell? ⟨b, o, none⟩ = some v :=
  (World.cell?_of_block (w := W) (a := ⟨b, o, none⟩) h.2.1).trans hv
theorem steps_start (w : World) (J L : List Value) : Below w.heap.size w ((w.alloc (.cells J.toArray 80)).alloc (.cells L.toArray 3)) ∧ Row ((w.alloc (.cells J.toArray 80)).alloc (.cells L.toArray 3)) w.heap.size 80 J ∧ Row ((w.alloc (.cells J.toArray 80)).alloc (.cells L.toArray 3)) (w.heap.size + 1) 3 L := by
  obtain ⟨w1, h1⟩ : ∃ w1, w.alloc (.cells J.toArray 80) = w1 := ⟨_, rfl⟩
  have s1 : w1.heap.size = w.heap.size + 1 := by rw [← h1, size_al]
  have b1 : Below w.heap.size w w1 := by rw [← h1]; exact Below.al (Below.refl _ _) (Nat.le_refl _) _
  have b2 : Below w1.heap.size w1 (w1.alloc (.cells L.toArray 3)) := Below.al (Below.refl _ _) (Nat.le_refl _) _
  have r1 : Row w1 w.heap.size 80 J := by rw [← h1]; exact Row.new _ _ _
  rw [h1, ← s1]
  exact ⟨Below.andThen b1 b2 (Nat.le_refl _), r1.below b2 r1.lt, Row.new _ _ _⟩
set_option maxHeartbeats 400000 in
theorem steps_any (n p0 p1 p2 p3 : Int) (cl : Bool) (w : World) :
    Calls Try.prog 53 #[.agg #[.int .i64 n, .int .i64 p0, .int .i64 p1, .int .i64 p2, .int .i64 p3], .bool cl] w fun e w' =>
      e = .returned (.func (.func 70) #[] #[.pointer (some ⟨w.heap.size + 1, 0, none⟩), .pointer (some ⟨w.heap.size, 0, none⟩)]) ∧ Below w.heap.size w w' ∧
      Row w' w.heap.size 80 [.int .i64 n, .int .i64 p0, .int .i64 p1, .int .i64 p2, .int .i64 p3] ∧ Row w' (w.heap.size + 1) 3 [.int .i64 (if cl = true then 0 else -1)] := by
  cases cl with
  | true =>
    have H := Lib.hid (steps_start w [.int .i64 n, .int .i64 p0, .int .i64 p1, .int .i64 p2, .int .i64 p3] [.int .i64 0])
    go_enter Try.func53, Try.ntmps53
    go_wp2_with fail
    go_ret
    exact ⟨rfl, H.out⟩
  | false =>
    have H := Lib.hid (steps_start w [.int .i64 n, .int .i64 p0, .int .i64 p1, .int .i64 p2, .int .i64 p3] [.int .i64 (-1)])
    go_enter Try.func53, Try.ntmps53
    go_wp2_with fail
    go_ret
    exact ⟨rfl, H.out⟩
/-- the steps from f to the first k ends from ls on -/
def rowL (ls f : Int) (k : Nat) : List (Int × Int) := ((List.range k).map (fun j : Nat => (f, ls + (j : Int)))).filter (fun p => decide (p.1 ≠ p.2))
/-- the steps before the one from the i-th end to the j-th one -/
def beforeL (ls : Int) (m i j : Nat) : List (Int × Int) := ((List.range i).flatMap (fun a : Nat => rowL ls (ls + (a : Int)) m)) ++ rowL ls (ls + (i : Int)) j
/-- all steps, rising -/
def stepsL (ls : Int) (m : Nat) : List (Int × Int) := (List.range m).flatMap (fun a : Nat => rowL ls (ls + (a : Int)) m)
theorem beforeL_0 (ls : Int) (m : Nat) : beforeL ls m 0 0 = [] := by simp [beforeL, rowL]
theorem beforeL_next (ls : Int) (m i : Nat) : beforeL ls m (i + 1) 0 = beforeL ls m i m := by
  unfold beforeL
  rw [List.range_succ, List.flatMap_append]
  simp [rowL]
theorem beforeL_end (ls : Int) (m : Nat) : beforeL ls m m 0 = stepsL ls m := by
  unfold beforeL stepsL
  simp [rowL]
theorem beforeL_ne (ls : Int) (m i j : Nat) (h : i ≠ j) : beforeL ls m i (j + 1) = beforeL ls m i j ++ [(ls + (i : Int), ls + (j : Int))] := by
  unfold beforeL rowL
  rw [List.range_succ, List.map_append, List.filter_append, List.append_assoc]
  congr 2
  simp; omega
theorem beforeL_eq (ls : Int) (m i : Nat) : beforeL ls m i (i + 1) = beforeL ls m i i := by
  unfold beforeL rowL
  rw [List.range_succ, List.map_append, List.filter_append]
  simp
set_option maxRecDepth 100000 in
set_option maxHeartbeats 1000000 in
/-- **the steps come one after the other** -/
theorem steps1_in (nf l bl bj n : Nat) (hn : n ≤ 4) (p0 p1 p2 p3 ls : Int) (m : Nat) (hls : ls = -1 ∨ ls = 0) (hm : (n : Int) = ls + (m : Int)) (J : List (Int × Int) → World → Prop) (Jx : World → Prop)
    (hY : ∀ (i j : Nat) W, i < m → j < m → i ≠ j → J (beforeL ls m i j) W → YieldAt Fence.wide (nf - 1) Try.prog l #[.agg #[.int .i64 (ls + (i : Int)), .int .i64 (ls + (j : Int))]] W fun e W' =>
      (e = .returned (.bool true) ∧ J (beforeL ls m i (j + 1)) W' ∧ Keeps2 bl bj W W') ∨ (e = .returned (.bool false) ∧ Jx W'))
    (W : World) (rl : Row W bl 3 [.int .i64 ls]) (rj : Row W bj 80 [.int .i64 (n : Int), .int .i64 p0, .int .i64 p1, .int .i64 p2, .int .i64 p3]) (h0 : J [] W) :
    CallsIn Fence.wide nf Try.prog 70 #[.func (.yield l) #[] #[], .pointer (some ⟨bl, 0, none⟩), .pointer (some ⟨bj, 0, none⟩)] W fun e W' => (∃ v, e = .returned v) ∧ (J (stepsL ls m) W' ∨ Jx W') := by
  refine callsIn_of_wp Try.func70 rfl trivial ?_ rfl
  simp only [Try.ntmps70, List.size_toArray, List.length_cons, List.length_nil, Nat.reduceAdd, Nat.reduceSub, Array.replicate_succ, Array.replicate_zero, List.push_toArray, List.append_toArray, List.nil_append, List.cons_append]
  have HY := Lib.hid hY
  have H0 := Lib.hid h0
  have c0 := rl.cell 0
  simp only [List.getElem?_cons_zero] at c0
  clear hY h0
  have jc := rj.cell 0
  simp only [List.getElem?_cons_zero] at jc
  have C0 := Lib.hid (And.intro c0 jc)
  gi_wp2_with fail
  clear c0 jc
  gi_loopw [4] (fun fv wr => ∃ i : Nat, i ≤ m ∧ fv = .int .i64 (ls + (i : Int)) ∧ Hid (J (beforeL ls m i 0) wr) ∧ Hid (Keeps2 bl bj W wr)) (fun fv _ => ((n : Int) - intOf fv).toNat)
  case atStart => exact ⟨0, Nat.zero_le _, by simp, Lib.hid (by rw [beforeL_0]; exact H0.out), Lib.hid (Keeps2.refl _ _ _)⟩
  case round =>
    clear H0
    obtain ⟨i, hi, rfl, HJ, HB⟩ := hrel
    have jc := HB.out.cell2 C0.out.2
    have c0 := HB.out.cell1 C0.out.1
    have iw : IntKind.i64.wrap (ls + (i : Int) + 1) = ls + ((i + 1 : Nat) : Int) := by rw [i64_of _ (by omega) (by omega)]; omega
    by_cases hlt : i < m
    · have hd : decide (ls + (i : Int) < (n : Int)) = true := decide_eq_true (by omega)
      gi_wp2_with fail
      clear jc c0
      gi_loopw [5] (fun tv wx => ∃ j : Nat, j ≤ m ∧ tv = .int .i64 (ls + (j : Int)) ∧ Hid (J (beforeL ls m i j) wx) ∧ Hid (Keeps2 bl bj W wx)) (fun tv _ => ((n : Int) - intOf tv).toNat)
      case atStart => exact ⟨0, Nat.zero_le _, by simp, HJ, HB⟩
      case round =>
        clear HJ HB
        obtain ⟨j, hj, rfl, HJ, HB⟩ := hrel
        have jc := HB.out.cell2 C0.out.2
        have jw : IntKind.i64.wrap (ls + (j : Int) + 1) = ls + ((j + 1 : Nat) : Int) := by rw [i64_of _ (by omega) (by omega)]; omega
        by_cases hlt2 : j < m
        · have hd2 : decide (ls + (j : Int) < (n : Int)) = true := decide_eq_true (by omega)
          by_cases hij : i = j
          · obtain rfl : j = i := hij.symm
            have HJ2 := Lib.hid (show J (beforeL ls m j (j + 1)) wr by rw [beforeL_eq]; exact HJ.out)
            clear HJ hij
            gi_wp2_with fail
            refine ⟨(fun _ h => by cases h), ?_⟩
            gi_wp2_with fail
            go_roundw
            case rel => exact ⟨j + 1, by omega, by simp, HJ2, HB⟩
            case measure => simp [intOf]; omega
          · have e1 : ((ls + (i : Int)) != (ls + (j : Int))) = true := by simp; omega
            have e2 : decide (ls + (i : Int) = ls + (j : Int)) = false := decide_eq_false (by omega)
            obtain ⟨fn, tmps, assign, body, hyy, hR⟩ := HY.out i j wr hlt hlt2 hij HJ.out
            have hR2 := hR.mono (R' := fun e W' => ∃ bb, e = .returned (.bool bb) ∧ Hid ((bb = true ∧ J (beforeL ls m i (j + 1)) W' ∧ Keeps2 bl bj wr W') ∨ (bb = false ∧ Jx W'))) (by
              rintro e W' (⟨rfl, h⟩ | ⟨rfl, h⟩)
              · exact ⟨true, rfl, Lib.hid (.inl ⟨rfl, h⟩)⟩
              · exact ⟨false, rfl, Lib.hid (.inr ⟨rfl, h⟩)⟩)
            have HR := Lib.hid hR2
            clear hR hR2 HJ
            gi_wp2_with fail
            refine ⟨(fun h => by cases h), ?_⟩
            refine HR.out.mono ?_
            rintro e W3 ⟨bb, rfl, hp⟩
            cases bb
            · have HX := Lib.hid (show Jx W3 by
                rcases hp.out with ⟨h, _⟩ | ⟨_, h⟩
                · cases h
                · exact h)
              clear hp hyy HR
              gi_wp2_with fail
              refine bodyPost_ret (results_none rfl _ _ _) rfl ?_
              exact ⟨⟨_, rfl⟩, .inr HX.out⟩
            · have HX := Lib.hid (show J (beforeL ls m i (j + 1)) W3 ∧ Keeps2 bl bj wr W3 by
                rcases hp.out with ⟨_, h⟩ | ⟨h, _⟩
                · exact h
                · cases h)
              clear hp hyy HR
              gi_wp2_with fail
              go_roundw
              case rel => exact ⟨j + 1, by omega, by simp, Lib.hid HX.out.1, Lib.hid (HB.out.trans HX.out.2)⟩
              case measure => simp [intOf]; omega
        · have hd2 : decide (ls + (j : Int) < (n : Int)) = false := decide_eq_false (by omega)
          have HJ2 := Lib.hid (show J (beforeL ls m (i + 1) 0) wr by
            have h := HJ.out
            rw [beforeL_next, show m = j by omega] ; rw [show m = j by omega] at h; exact h)
          clear HJ
          gi_wp2_with fail
          exact ⟨⟨i + 1, by omega, by simp, HJ2, HB⟩, by simp [intOf]; omega⟩
    · have hd : decide (ls + (i : Int) < (n : Int)) = false := decide_eq_false (by omega)
      have HJ2 := Lib.hid (show J (stepsL ls m) wr by
        have h := HJ.out
        rw [show i = m by omega, beforeL_end] at h; exact h)
      clear HJ
      gi_wp2_with fail
      go_end0
      exact ⟨⟨_, rfl⟩, .inl HJ2.out⟩
end Go.Proofs.Ytlamppplnojpbaa
