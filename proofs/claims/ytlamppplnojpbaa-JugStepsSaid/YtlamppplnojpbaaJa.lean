import Derived.Test.YtlamppplnojpbaaRows
import Derived.Maps.OwnIn
import Derived.Maps.AppendAt
import Derived.RangeFuncNested
import Derived.RangeFuncBound
import Derived.RangeFuncCalls
import Derived.RangeFuncLeaves
import Derived.Shelf.Abstract
import Derived.Shelf.RegionOpen
import Derived.WalkKit
import Derived.OwnWalkIn
import Derived.TacticsInMore
import Derived.LoopNIn
import Derived.LoopIn
import Derived.WalkSpells
import Derived.WalkLawsBesides
import Derived.BigQuiet
import Derived.Deep.QuietTactic
import Derived.Lib.Hide
import Derived.Deep.RegionHeld3
import Derived.StillTailTactics
import Derived.Deep.LoopGhost
import Derived.Maps.OwnSet
import Derived.Lib.IndexAny
import Derived.Sort.QuietThIn
import Derived.Sort.QuietTacIn
import Derived.Sort.BigQuietIn
namespace Go.Proofs.Ytlamppplnojpbaa
def Bd (B x : Int) : Prop := -B ≤ x ∧ x ≤ B
theorem Bd.mono {B C x : Int} (h : Bd B x) (hc : B ≤ C) : Bd C x := ⟨by have := h.1; omega, by have := h.2; omega⟩
theorem Bd.add {B C x y : Int} (h : Bd B x) (k : Bd C y) : Bd (B + C) (x + y) := by
  unfold Bd at *; omega
theorem Bd.sub {B C x y : Int} (h : Bd B x) (k : Bd C y) : Bd (B + C) (x - y) := by
  unfold Bd at *; omega
theorem Bd.neg {B x : Int} (h : Bd B x) : Bd B (-x) := by
  unfold Bd at *; omega
theorem Bd.abs {B x : Int} : Bd B x ↔ (x.natAbs : Int) ≤ B := by unfold Bd; omega
theorem Bd.mul {B C x y : Int} (h : Bd B x) (k : Bd C y) : Bd (B * C) (x * y) := by
  rw [Bd.abs] at *
  rw [Int.natAbs_mul, Int.natCast_mul]
  exact Int.mul_le_mul h k (by omega) (by omega)
theorem Bd.tdiv {B x g : Int} (h : Bd B x) : Bd B (x.tdiv g) := by
  rw [Bd.abs] at *
  have : (x.tdiv g).natAbs ≤ x.natAbs := by
    rw [Int.natAbs_tdiv]; exact Nat.div_le_self _ _
  omega
open Go.RowKit Go.Shelf
attribute [local go_sem] Oper.semAt_some
theorem i64_of (x : Int) (h : -4611686018427387904 ≤ x) (h' : x ≤ 4611686018427387903) : IntKind.i64.wrap x = x :=
  IntWalk.i64_in _ (by omega)
theorem i64_bd {x B : Int} (h : Bd B x) (hB : B ≤ 4611686018427387903) : IntKind.i64.wrap x = x := by
  unfold Bd at h; exact i64_of x (by omega) (by omega)
theorem ret_bool {a b : Bool} (h : a = b) : Ending.returned (.bool a) = .returned (.bool b) := by rw [h]
theorem ret_int {k : IntKind} {a b : Int} (h : a = b) : Ending.returned (.int k a) = .returned (.int k b) := by rw [h]
theorem drewN_drewN (w : World) (a b : Nat) : (w.drewN a).drewN b = w.drewN (a + b) := by
  unfold World.drewN; simp [Nat.add_assoc]
theorem drew_drewN (w : World) (a : Nat) : (w.drewN a).drew = w.drewN (a + 1) := by
  unfold World.drewN World.drew; simp [Nat.add_assoc]
theorem below_at {B : Nat} {w w' : World} (hb : Below B w w') {b o : Nat} {v : Value} (hg : b < B) (h : w.cell? ⟨b, o, none⟩ = some v) : w'.cell? ⟨b, o, none⟩ = some v := (hb.cell (p := ⟨b, o, none⟩) hg).trans h
theorem Below.andThen {B : Nat} {w W W' : World} (h : Below B w W) (h' : Below W.heap.size W W') (hB : B ≤ w.heap.size) : Below B w W' :=
  h.trans (h'.mono (Nat.le_trans hB h.size))
theorem Below.al {B : Nat} {w W : World} (h : Below B w W) (hB : B ≤ w.heap.size) (o : Obj) : Below B w (W.alloc o) := h.alloc (Nat.le_trans hB h.size) _
theorem cell_al (w : World) (cs : Array Value) (t : TypeId) (b o : Nat) : (w.alloc (.cells cs t)).cell? ⟨b, o, none⟩ = if b = w.heap.size then cs[o]? else w.cell? ⟨b, o, none⟩ := by
  by_cases h : b = w.heap.size
  · subst h; rw [if_pos rfl, cell_of_row _ _ _ cs t (0, 0) (heap_alloc_new w _)]
  · rw [if_neg h]
    exact World.cell?_of_block (w := w) (a := ⟨b, o, none⟩) (by show (w.heap.push _)[b]? = _; rw [Array.getElem?_push, if_neg h])
theorem frozen_al (w : World) (cs : Array Value) (t : TypeId) (b o : Nat) : (w.alloc (.cells cs t)).frozen? ⟨b, o, none⟩ = if b = w.heap.size then false else w.frozen? ⟨b, o, none⟩ := by
  by_cases h : b = w.heap.size
  · subst h; rw [if_pos rfl, frozen_of_row _ _ _ cs t (heap_alloc_new w _)]
  · rw [if_neg h]
    exact World.frozen?_of_block (w := w) (a := ⟨b, o, none⟩) (by show (w.heap.push _)[b]? = _; rw [Array.getElem?_push, if_neg h])
theorem size_al (w : World) (o : Obj) : (w.alloc o).heap.size = w.heap.size + 1 := by simp

/-- block g is a row of cells of the element type E -/
def Row (w : World) (g : Nat) (E : TypeId) (vs : List Value) : Prop := w.heap[g]? = some (.cells vs.toArray E (0, 0))
theorem Row.cell {w : World} {g : Nat} {E : TypeId} {vs : List Value} (h : Row w g E vs) (i : Nat) : w.cell? ⟨g, i, none⟩ = vs[i]? := by
  rw [cell_of_row w g i _ _ _ h]; simp
theorem Row.lt {w : World} {g : Nat} {E : TypeId} {vs : List Value} (h : Row w g E vs) : g < w.heap.size :=
  (Array.getElem?_eq_some_iff.1 h).1
theorem Row.below {B : Nat} {w w' : World} {g : Nat} {E : TypeId} {vs : List Value} (h : Row w g E vs) (hb : Below B w w') (hg : g < B) : Row w' g E vs := by
  unfold Row; rw [hb.block g hg]; exact h
theorem Row.new (w : World) (E : TypeId) (vs : List Value) : Row (w.alloc (.cells vs.toArray E)) w.heap.size E vs :=
  heap_alloc_new w _

def encI (x : Int) : Value := .int .i64 x
/-- the numbers of zs lie at block b from offset o on -/
structure IntsAt (w : World) (b o : Nat) (zs : List Int) : Prop where
  lt : zs = [] ∨ b < w.heap.size
  at_ : ∀ i (h : i < zs.length), w.cell? ⟨b, o + i, none⟩ = some (.int .i64 zs[i])
theorem IntsAt.below {B : Nat} {w w' : World} {b o : Nat} {zs : List Int} (h : IntsAt w b o zs) (hb : Below B w w') (hB : b < B) : IntsAt w' b o zs :=
  ⟨h.lt.imp id (fun x => Nat.lt_of_lt_of_le x hb.size), fun i hi => below_at hb hB (h.at_ i hi)⟩

/-- a world that holds all that w holds -/
structure Kl (w : World) where
  W : World
  h : Below w.heap.size w W
theorem wp_region_below {P : Program} {id : Nat} {Q : Exit → Act → World → Prop} {a : Act} {w : World} {l : List Oper} (hm : P.follows .mixedOrders = true) (hB : Region.lexB .any l.toArray = true)
    (h : wpQuiet P l.toArray (fun w' => ∃ n : Kl w, w' = n.W) (fun a' => ∀ w', (∃ n : Kl w, w' = n.W) → Q .normal a' w') l a) : (Code.region id l.toArray true).wp P Q a w :=
  wp_region_quiet (C := fun w' => ∃ n : Kl w, w' = n.W) hm hB ⟨⟨w.drew, (Below.refl _ _).drew⟩, rfl⟩ (by simpa using h)
theorem Kl.call {P : Program} {f : FuncId} {args : Array Value} {w : World} {x : Kl w} {v : Value}
    (h : Calls P f args x.W fun e w' => e = .returned v ∧ Below x.W.heap.size x.W w') : Calls P f args x.W fun e w'' => e = .returned v ∧ ∃ n : Kl w, w'' = n.W :=
  h.mono fun _ w' ⟨he, hb⟩ => ⟨he, ⟨w', Below.andThen x.h hb (Nat.le_refl _)⟩, rfl⟩
theorem Kl.cell {w : World} {b o : Nat} {v : Value} (hb : b < w.heap.size) (h : w.cell? ⟨b, o, none⟩ = some v) (x : Kl w) : x.W.cell? ⟨b, o, none⟩ = some v := below_at x.h hb h
instance (w : World) : Nonempty (Kl w) := ⟨⟨w, Below.refl _ _⟩⟩

/-- v is a slice of the numbers zs -/
def SlI (w : World) (v : Value) (zs : List Int) : Prop := ∃ a c, v = .slice a zs.length c ∧ zs.length ≤ c ∧ (zs = [] ∨ ∃ b o, a = some ⟨b, o, none⟩ ∧ b < w.heap.size ∧ IntsAt w b o zs)
theorem SlI.grow {w w' : World} {v : Value} {zs : List Int} (h : SlI w v zs) (hb : Below w.heap.size w w') : SlI w' v zs := by
  obtain ⟨a, c, rfl, hc, h⟩ := h
  refine ⟨a, c, rfl, hc, h.imp id ?_⟩
  rintro ⟨b, o, rfl, hl, hi⟩
  exact ⟨b, o, rfl, Nat.lt_of_lt_of_le hl hb.size, hi.below hb hl⟩
theorem SlI.growFrom {w w' : World} {v : Value} {zs : List Int} (h : SlI w v zs) (hb : Below w.heap.size w w') : SlI w' v zs := h.grow hb
def sizeB (z : Int) : Bool := decide (1 ≤ z) && decide (z ≤ 12)
/-- sizes of jugs -/
def jugsB (zs : List Int) : Bool := decide (1 ≤ zs.length) && decide (zs.length ≤ 4) && zs.all sizeB
theorem jugsB_bad {zs : List Int} (z : Int) (hz : z ∈ zs) (h : z < 1 ∨ 12 < z) : jugsB zs = false := by
  unfold jugsB
  rw [Bool.and_eq_false_iff]; right
  rw [List.all_eq_false]; exact ⟨z, hz, by unfold sizeB; simp; omega⟩
theorem jugsB_len {zs : List Int} (h : jugsB zs = true) : 1 ≤ zs.length ∧ zs.length ≤ 4 := by
  unfold jugsB at h
  simp only [Bool.and_eq_true, decide_eq_true_eq] at h
  exact h.1
theorem jugsB_in {zs : List Int} (h : jugsB zs = true) {z : Int} (hz : z ∈ zs) : 1 ≤ z ∧ z ≤ 12 := by
  unfold jugsB at h
  rw [Bool.and_eq_true, List.all_eq_true] at h
  have := h.2 z hz
  unfold sizeB at this
  simpa using this
def errJ (zs : List Int) : Int := if jugsB zs = true then 0 else 20
set_option maxHeartbeats 400000 in
theorem check_any (zs : List Int) (v : Value) (w : World) (hv : SlI w v zs) (hl : zs.length ≤ 1000000) :
    Calls Try.prog 46 #[v] w fun e w' => e = .returned (.int .i64 (errJ zs)) ∧ Below w.heap.size w w' := by
  obtain ⟨a, c, rfl, hc, hs⟩ := hv
  by_cases h1 : zs.length < 1
  · have fin : errJ zs = 20 := by unfold errJ jugsB; simp; omega
    have Fin := Lib.hid fin
    have d1 : decide ((zs.length : Int) < 1) = true := decide_eq_true (by omega)
    clear fin hs
    go_enter Try.func46, Try.ntmps46
    go_wp2
    go_ret
    exact ⟨ret_int Fin.out.symm, Below.refl _ _⟩
  by_cases h4 : 4 < zs.length
  · have fin : errJ zs = 20 := by unfold errJ jugsB; simp; omega
    have Fin := Lib.hid fin
    have d1 : decide ((zs.length : Int) < 1) = false := decide_eq_false (by omega)
    have d2 : decide (4 < (zs.length : Int)) = true := decide_eq_true (by omega)
    clear fin hs
    go_enter Try.func46, Try.ntmps46
    go_wp2
    go_ret
    exact ⟨ret_int Fin.out.symm, Below.refl _ _⟩
  obtain ⟨b, o, rfl, hbl, hi⟩ : ∃ b o, a = some ⟨b, o, none⟩ ∧ b < w.heap.size ∧ IntsAt w b o zs := hs.resolve_left (fun e => by rw [e] at h1; simp at h1)
  have HI := Lib.hid hi
  have d1 : decide ((zs.length : Int) < 1) = false := decide_eq_false (by omega)
  have d2 : decide (4 < (zs.length : Int)) = false := decide_eq_false (by omega)
  clear hs hi
  go_enter Try.func46, Try.ntmps46
  go_wp2
  go_loopw [15] (fun i wr => ∃ k : Nat, k ≤ zs.length ∧ i = .int .i64 (k : Int) ∧ Hid (Below w.heap.size w wr) ∧ Hid ((zs.take k).all sizeB = true)) (fun i _ => zs.length - (intOf i).toNat)
  case atStart => exact ⟨0, by omega, rfl, Lib.hid (Below.refl _ _), Lib.hid rfl⟩
  case round =>
    obtain ⟨k, hk, rfl, HB, HK⟩ := hrel
    by_cases hlt : k < zs.length
    · have hd : decide ((k : Int) < (zs.length : Int)) = true := decide_eq_true (by omega)
      have hx := below_at HB.out hbl (HI.out.at_ k hlt)
      have HM := Lib.hid (List.getElem_mem hlt)
      have HS := Lib.hid (show (zs.take (k + 1)).all sizeB = sizeB zs[k] by
        rw [List.take_succ_eq_append_getElem hlt, List.all_append, HK.out]; simp)
      clear HK
      generalize zs[k] = z at *
      by_cases hz1 : z < 1
      · have d3 : decide (z < 1) = true := decide_eq_true hz1
        have fin := Lib.hid (show errJ zs = 20 by unfold errJ; rw [jugsB_bad z HM.out (.inl hz1)]; rfl)
        go_wp2_with fail
        go_ret
        exact ⟨ret_int fin.out.symm, HB.out⟩
      by_cases hz2 : 12 < z
      · have d3 : decide (z < 1) = false := decide_eq_false hz1
        have d4 : decide (12 < z) = true := decide_eq_true hz2
        have fin := Lib.hid (show errJ zs = 20 by unfold errJ; rw [jugsB_bad z HM.out (.inr hz2)]; rfl)
        go_wp2_with fail
        go_ret
        exact ⟨ret_int fin.out.symm, HB.out⟩
      have d3 : decide (z < 1) = false := decide_eq_false hz1
      have d4 : decide (12 < z) = false := decide_eq_false hz2
      go_wp2_with fail
      go_roundw
      case rel => exact ⟨k + 1, by omega, by simp, HB, Lib.hid (by rw [HS.out]; unfold sizeB; simp; omega)⟩
      case measure => simp [intOf]; omega
    · have hd : decide ((k : Int) < (zs.length : Int)) = false := decide_eq_false (by omega)
      have hk2 : k = zs.length := by omega
      subst hk2
      have fin := Lib.hid (show errJ zs = 0 by
        have h := HK.out
        rw [List.take_length] at h
        unfold errJ jugsB; rw [h]; simp; omega)
      go_wp2_with fail
      go_ret
      exact ⟨ret_int fin.out.symm, HB.out⟩
/-- a filling of jugs -/
def fitsB (zs fs : List Int) : Bool := decide (fs.length = zs.length) && (List.range fs.length).all fun i => decide (0 ≤ fs.getD i 0) && decide (fs.getD i 0 ≤ zs.getD i 0)
theorem getD_lt {zs : List Int} {i : Nat} (h : i < zs.length) : zs.getD i 0 = zs[i] := by simp [List.getD, h]
set_option maxHeartbeats 400000 in
theorem fits_any (zs fs : List Int) (v u : Value) (w : World) (hv : SlI w v zs) (hu : SlI w u fs) (hl : zs.length ≤ 4) :
    Calls Try.prog 69 #[v, u] w fun e w' => e = .returned (.bool (fitsB zs fs)) ∧ Below w.heap.size w w' := by
  obtain ⟨a, c, rfl, hc, hs⟩ := hv
  obtain ⟨a', c', rfl, hc', hs'⟩ := hu
  by_cases hne : fs.length = zs.length
  case neg =>
    have fin := Lib.hid (show fitsB zs fs = false by unfold fitsB; simp [hne])
    have d1 : decide ((fs.length : Int) = (zs.length : Int)) = false := decide_eq_false (by omega)
    have d2 : ((fs.length : Int) == (zs.length : Int)) = false := by simp; omega
    clear hs hs' hne
    go_enter Try.func69, Try.ntmps69
    go_wp2_with fail
    go_ret
    exact ⟨ret_bool fin.out.symm, Below.refl _ _⟩
  case pos =>
    rw [hne]
    rw [hne] at hc'
    have HNE := Lib.hid hne
    have HS := Lib.hid hs
    have HS' := Lib.hid hs'
    clear hs hs' hne
    go_enter Try.func69, Try.ntmps69
    go_wp2_with fail
    go_loopw [14] (fun i wr => ∃ k : Nat, k ≤ zs.length ∧ i = .int .i64 (k : Int) ∧ Hid (Below w.heap.size w wr) ∧ Hid (∀ j, j < k → 0 ≤ fs.getD j 0 ∧ fs.getD j 0 ≤ zs.getD j 0)) (fun i _ => zs.length - (intOf i).toNat)
    case atStart => exact ⟨0, by omega, rfl, Lib.hid (Below.refl _ _), Lib.hid (fun j hj => by omega)⟩
    case round =>
      obtain ⟨k, hk, rfl, HB, HK⟩ := hrel
      by_cases hlt : k < zs.length
      · have hd : decide ((k : Int) < (zs.length : Int)) = true := decide_eq_true (by omega)
        have hkf : k < fs.length := by have := HNE.out; omega
        obtain ⟨b, o, rfl, hbl, hi⟩ : ∃ b o, a = some ⟨b, o, none⟩ ∧ b < w.heap.size ∧ IntsAt w b o zs := HS.out.resolve_left (fun e => by rw [e] at hlt; simp at hlt)
        obtain ⟨b', o', rfl, hbl', hi'⟩ : ∃ b o, a' = some ⟨b, o, none⟩ ∧ b < w.heap.size ∧ IntsAt w b o fs := HS'.out.resolve_left (fun e => by rw [e] at hkf; simp at hkf)
        have hx := below_at HB.out hbl (hi.at_ k hlt)
        have hy := below_at HB.out hbl' (hi'.at_ k hkf)
        rw [← getD_lt hlt] at hx
        rw [← getD_lt hkf] at hy
        have HBAD := Lib.hid (show (fs.getD k 0 < 0 ∨ zs.getD k 0 < fs.getD k 0) → fitsB zs fs = false from fun h => by
          unfold fitsB
          rw [Bool.and_eq_false_iff]; right
          rw [List.all_eq_false]
          exact ⟨k, List.mem_range.2 hkf, by simp only [Bool.and_eq_true, decide_eq_true_eq]; omega⟩)
        have HOK := Lib.hid (show (0 ≤ fs.getD k 0 ∧ fs.getD k 0 ≤ zs.getD k 0) → ∀ j, j < k + 1 → 0 ≤ fs.getD j 0 ∧ fs.getD j 0 ≤ zs.getD j 0 from fun h j hj => by
          rcases Nat.lt_or_ge j k with h' | h'
          · exact HK.out j h'
          · rw [show j = k by omega]; exact h)
        clear HK hi hi' hkf
        generalize zs.getD k 0 = z at *
        generalize fs.getD k 0 = y at *
        by_cases hz1 : y < 0
        · have d3 : decide (y < 0) = true := decide_eq_true hz1
          have fin := Lib.hid (HBAD.out (.inl hz1))
          go_wp2_with fail
          go_ret
          exact ⟨ret_bool fin.out.symm, HB.out⟩
        have d3 : decide (y < 0) = false := decide_eq_false hz1
        by_cases hz2 : z < y
        · have d4 : decide (z < y) = true := decide_eq_true hz2
          have fin := Lib.hid (HBAD.out (.inr hz2))
          go_wp2_with fail
          go_ret
          exact ⟨ret_bool fin.out.symm, HB.out⟩
        have d4 : decide (z < y) = false := decide_eq_false hz2
        have fin := Lib.hid (HOK.out ⟨by omega, by omega⟩)
        go_wp2_with fail
        go_roundw
        case rel => exact ⟨k + 1, by omega, by simp, HB, fin⟩
        case measure => simp [intOf]; omega
      · have hd : decide ((k : Int) < (zs.length : Int)) = false := decide_eq_false (by omega)
        have fin := Lib.hid (show fitsB zs fs = true by
          unfold fitsB
          rw [Bool.and_eq_true, decide_eq_true_eq, List.all_eq_true]
          refine ⟨HNE.out, fun i hi => ?_⟩
          have := HK.out i (by have := List.mem_range.1 hi; have := HNE.out; omega)
          simp only [Bool.and_eq_true, decide_eq_true_eq]; exact this)
        clear HK
        go_wp2_with fail
        go_ret
        exact ⟨ret_bool fin.out.symm, HB.out⟩
/-- v is a slice of slices of numbers -/
def SlS (w : World) (v : Value) (fss : List (List Int)) : Prop := ∃ a c, v = .slice a fss.length c ∧ fss.length ≤ c ∧ (fss = [] ∨ ∃ b o, a = some ⟨b, o, none⟩ ∧ b < w.heap.size ∧ ∀ i (h : i < fss.length), ∃ u, w.cell? ⟨b, o + i, none⟩ = some u ∧ SlI w u fss[i])
def errA (zs : List Int) (fss : List (List Int)) : Int := if jugsB zs = true then (if fss.all (fitsB zs) = true then 0 else 1) else 20
set_option maxHeartbeats 400000 in
theorem checkAll_any (zs : List Int) (fss : List (List Int)) (v u : Value) (w : World) (hv : SlI w v zs) (hu : SlS w u fss) (hl : zs.length ≤ 1000000) (hf : fss.length ≤ 4) :
    Calls Try.prog 50 #[v, u] w fun e w' => e = .returned (.int .i64 (errA zs fss)) ∧ Below w.heap.size w w' := by
  obtain ⟨a', c', rfl, hc', hs'⟩ := hu
  have HV := Lib.hid hv
  have HS' := Lib.hid hs'
  have HC := Lib.hid (check_any zs v w hv hl)
  clear hs' hv
  obtain ⟨E, hE⟩ : ∃ E, jugsB zs = E := ⟨_, rfl⟩
  cases E with
  | false =>
    have fin := Lib.hid (show errA zs fss = 20 by unfold errA; rw [hE]; rfl)
    have e1 : errJ zs = 20 := by unfold errJ; rw [hE]; rfl
    rw [e1] at HC
    clear e1 hE
    go_enter Try.func50, Try.ntmps50
    go_wp2_with fail
    refine HC.out.mono ?_
    rintro e w1 ⟨rfl, hb⟩
    have B1 := Lib.hid hb
    clear hb HC
    go_wp2_with fail
    go_ret
    exact ⟨ret_int fin.out.symm, B1.out⟩
  | true =>
    have e1 : errJ zs = 0 := by unfold errJ; rw [hE]; rfl
    rw [e1] at HC
    have hl4 := (jugsB_len hE).2
    have HE := Lib.hid hE
    clear e1 hE
    go_enter Try.func50, Try.ntmps50
    go_wp2_with fail
    refine HC.out.mono ?_
    rintro e w1 ⟨rfl, hb⟩
    have B1 := Lib.hid hb
    clear hb HC
    go_wp2_with fail
    go_loopw [15] (fun i wr => ∃ k : Nat, k ≤ fss.length ∧ i = .int .i64 (k : Int) ∧ Hid (Below w.heap.size w wr) ∧ Hid ((fss.take k).all (fitsB zs) = true)) (fun i _ => fss.length - (intOf i).toNat)
    case atStart => exact ⟨0, by omega, rfl, B1, Lib.hid rfl⟩
    case round =>
      clear B1
      obtain ⟨k, hk, rfl, HB, HK⟩ := hrel
      by_cases hlt : k < fss.length
      · have hd : decide ((k : Int) < (fss.length : Int)) = true := decide_eq_true (by omega)
        obtain ⟨b, o, rfl, hbl, hi⟩ : ∃ b o, a' = some ⟨b, o, none⟩ ∧ b < w.heap.size ∧ ∀ i (h : i < fss.length), ∃ u, w.cell? ⟨b, o + i, none⟩ = some u ∧ SlI w u fss[i] := HS'.out.resolve_left (fun e => by rw [e] at hlt; simp at hlt)
        obtain ⟨u, hcu, hu⟩ := hi k hlt
        have hx := below_at HB.out hbl hcu
        have HS := Lib.hid (show (fss.take (k + 1)).all (fitsB zs) = fitsB zs fss[k] by
          rw [List.take_succ_eq_append_getElem hlt, List.all_append, HK.out]; simp)
        have HM := Lib.hid (List.getElem_mem hlt)
        have HC := Lib.hid (fits_any zs fss[k] v u wr (HV.out.growFrom HB.out) (hu.growFrom HB.out) hl4)
        clear HK hi hcu hu
        generalize fss[k] = fs at *
        obtain ⟨E, hE⟩ : ∃ E, fitsB zs fs = E := ⟨_, rfl⟩
        rw [hE] at HC HS
        cases E with
        | false =>
          have fin := Lib.hid (show errA zs fss = 1 by
            unfold errA
            rw [HE.out, if_pos rfl, if_neg]
            intro h
            rw [List.all_eq_true] at h
            rw [h fs HM.out] at hE
            cases hE)
          clear hE
          go_wp2_with fail
          refine HC.out.mono ?_
          rintro e w2 ⟨rfl, hb⟩
          have B2 := Lib.hid (Below.andThen HB.out hb (Nat.le_refl _))
          clear hb HC HB
          go_wp2_with fail
          go_ret
          exact ⟨ret_int fin.out.symm, B2.out⟩
        | true =>
          clear hE
          go_wp2_with fail
          refine HC.out.mono ?_
          rintro e w2 ⟨rfl, hb⟩
          have B2 := Lib.hid (Below.andThen HB.out hb (Nat.le_refl _))
          clear hb HC HB
          go_wp2_with fail
          go_roundw
          case rel => exact ⟨k + 1, by omega, by simp, B2, HS⟩
          case measure => simp [intOf]; omega
      · have hd : decide ((k : Int) < (fss.length : Int)) = false := decide_eq_false (by omega)
        have hk2 : k = fss.length := by omega
        subst hk2
        have fin := Lib.hid (show errA zs fss = 0 by
          have h := HK.out
          rw [List.take_length] at h
          unfold errA; rw [HE.out, h]; rfl)
        clear HK
        go_wp2_with fail
        go_ret
        exact ⟨ret_int fin.out.symm, HB.out⟩
/-- a filling as the program keeps it: four numbers, 0 behind the last jug -/
def padF (fs : List Int) : List Int := (fs ++ List.replicate 4 0).take 4
theorem padF_len (fs : List Int) : (padF fs).length = 4 := by unfold padF; rw [List.length_take, List.length_append, List.length_replicate]; omega
def aggI (fs : List Int) : Value := .agg (fs.map encI).toArray
theorem Row.set {w : World} {g : Nat} {E : TypeId} {vs : List Value} (h : Row w g E vs) (i : Nat) (v : Value) : Row (w.setCell ⟨g, i, none⟩ v) g E (vs.set i v) := by
  unfold Row
  have := heap_setCell_same w g i vs.toArray E v h
  rw [this]; simp
theorem size3 : (Try.prog.info? 3).map (·.size) = some 1 := by kernel_rfl
def W4 (w : World) : World := (w.alloc (.cells #[.int .i64 0, .int .i64 0, .int .i64 0, .int .i64 0] 77)).alloc (.cells #[.int .i64 0, .int .i64 0, .int .i64 0, .int .i64 0] 77)
theorem pad_row : ∀ (fs : List Int), fs.length ≤ 4 → ([.int .i64 0, .int .i64 0, .int .i64 0, .int .i64 0] : List Value).toArray.toList.take 0 ++ fs.map encI ++ ([.int .i64 0, .int .i64 0, .int .i64 0, .int .i64 0] : List Value).toArray.toList.drop (0 + fs.length) = (padF fs).map encI
  | [], _ => by simp [padF, encI, List.replicate]
  | [_], _ => by simp [padF, encI, List.replicate]
  | [_, _], _ => by simp [padF, encI, List.replicate]
  | [_, _, _], _ => by simp [padF, encI, List.replicate]
  | [_, _, _, _], _ => by simp [padF, encI, List.replicate]
  | _ :: _ :: _ :: _ :: _ :: _, h => by simp at h
theorem setRow_ne (W : World) (g : Nat) (cs : Array Value) (k : Nat) (hk : k ≠ g) : (W.setRow g cs).heap[k]? = W.heap[k]? := by
  simp only [World.setRow, Array.getElem?_modify]
  rw [if_neg (by omega)]
theorem copy4 (fs : List Int) (a : Option Addr) (c : Nat) (w : World) (hl : fs.length ≤ 4) (hs : fs = [] ∨ ∃ b o, a = some ⟨b, o, none⟩ ∧ b < w.heap.size ∧ IntsAt w b o fs) :
    ∃ W, (Builtin.copy_ #[22, 22] 3 #[.slice (some ⟨w.heap.size + 1, 0, none⟩) 4 4, .slice a fs.length c]).run Try.prog (W4 w) = .ok (goInt fs.length) W ∧ Row W (w.heap.size + 1) 77 ((padF fs).map encI) ∧ Row W w.heap.size 77 [.int .i64 0, .int .i64 0, .int .i64 0, .int .i64 0] ∧ Below w.heap.size w W := by
  have hb : Below w.heap.size w (W4 w) := Below.al (Below.al (Below.refl _ _) (Nat.le_refl _) _) (Nat.le_refl _) _
  have r1 : Row (W4 w) (w.heap.size + 1) 77 [.int .i64 0, .int .i64 0, .int .i64 0, .int .i64 0] := by
    have := Row.new (w.alloc (.cells #[.int .i64 0, .int .i64 0, .int .i64 0, .int .i64 0] 77)) 77 [.int .i64 0, .int .i64 0, .int .i64 0, .int .i64 0]
    rw [size_al] at this
    exact this
  have r0 : Row (W4 w) w.heap.size 77 [.int .i64 0, .int .i64 0, .int .i64 0, .int .i64 0] := by
    have h := Row.new w 77 [.int .i64 0, .int .i64 0, .int .i64 0, .int .i64 0]
    exact h.below (Below.al (Below.refl (w.heap.size + 1) _) (by rw [size_al]; omega) _) (by omega)
  rcases hs with rfl | ⟨b, o, rfl, hbl, hi⟩
  · exact ⟨W4 w, run_copy_none _ 22 22 3 3 _ _ _ _ _ _ Try.underlying22 size3 (by simp), r1, r0, hb⟩
  · have hlen : (fs.map encI).length = Nat.min fs.length 4 := by rw [List.length_map]; exact (Nat.min_eq_left hl).symm
    have h := run_copy_row (P := Try.prog) (W4 w) 22 22 3 3 (w.heap.size + 1) 0 4 4 ⟨b, o, none⟩ fs.length c _ 77 (fs.map encI) Try.underlying22 size3 r1 hlen
      (fun j v hj => by
        have hj' : j < fs.length := by
          have := (List.getElem?_eq_some_iff.1 hj).1
          rwa [List.length_map] at this
        rw [Go.WideShapes.add_plain]
        have h1 := below_at hb hbl (hi.at_ j hj')
        rw [h1]
        rw [List.getElem?_map, List.getElem?_eq_getElem hj'] at hj
        simpa [encI] using hj)
      (by rw [hlen]; exact Nat.le_trans (Nat.add_le_add_left (Nat.min_le_right _ _) 0) (by decide)) (fun v hv => by
        obtain ⟨x, _, rfl⟩ := List.mem_map.1 hv
        simp [encI, Value.oneCell'])
    rw [List.length_map] at h
    have hs2 : (W4 w).heap.size = w.heap.size + 2 := by unfold W4; rw [size_al, size_al]
    refine ⟨_, h, ?_, ?_, ?_⟩
    · unfold Row
      have hlt := (Array.getElem?_eq_some_iff.1 r1).1
      obtain ⟨_, he⟩ := Array.getElem?_eq_some_iff.1 r1
      rw [pad_row fs hl]
      simp [World.setRow, hlt, he, Array.getElem_modify]
    · unfold Row; rw [setRow_ne _ _ _ _ (by omega)]; exact r0
    · exact hb.trans ⟨rfl, rfl, rfl, by simp [World.setRow], fun k hk => setRow_ne _ _ _ _ (by omega)⟩
set_option maxRecDepth 100000 in
set_option maxHeartbeats 400000 in
theorem fillingOf_any (fs : List Int) (v : Value) (w : World) (hv : SlI w v fs) (hl : fs.length ≤ 4) :
    Calls Try.prog 52 #[v] w fun e w' => e = .returned (aggI (padF fs)) ∧ Below w.heap.size w w' := by
  obtain ⟨a, c, rfl, hc, hs⟩ := hv
  obtain ⟨W, hW, hr1, hr0, hb⟩ := copy4 fs a c w hl hs
  unfold W4 at hW
  have R0 := Lib.hid hr0
  have R1 := Lib.hid hr1
  have B1 := Lib.hid hb
  have hpl := padF_len fs
  generalize padF fs = P at *
  obtain ⟨p0, p1, p2, p3, rfl⟩ : ∃ p0 p1 p2 p3, P = [p0, p1, p2, p3] := by
    match P, hpl with
    | [a, b, c, d], _ => exact ⟨a, b, c, d, rfl⟩
  have c0 := hr1.cell 0
  have c1 := hr1.cell 1
  have c2 := hr1.cell 2
  have c3 := hr1.cell 3
  have z0 := hr0.cell 0
  have z1 := hr0.cell 1
  have z2 := hr0.cell 2
  have z3 := hr0.cell 3
  have f0 := frozen_of_row _ w.heap.size 0 _ _ hr0
  have f1 := frozen_of_row _ w.heap.size 1 _ _ hr0
  have f2 := frozen_of_row _ w.heap.size 2 _ _ hr0
  have f3 := frozen_of_row _ w.heap.size 3 _ _ hr0
  simp only [List.map_cons, List.map_nil, List.getElem?_cons_zero, List.getElem?_cons_succ, encI] at c0 c1 c2 c3 z0 z1 z2 z3
  clear hs hr1 hr0 hb hpl
  go_enter Try.func52, Try.ntmps52
  go_wp2_with fail
  have hr : Row ((((W.setCell ⟨w.heap.size, 0, none⟩ (.int .i64 p0)).setCell ⟨w.heap.size, 1, none⟩ (.int .i64 p1)).setCell ⟨w.heap.size, 2, none⟩ (.int .i64 p2)).setCell ⟨w.heap.size, 3, none⟩ (.int .i64 p3)) w.heap.size 77 [.int .i64 p0, .int .i64 p1, .int .i64 p2, .int .i64 p3] := by
    simpa using (((R0.out.set 0 (.int .i64 p0)).set 1 (.int .i64 p1)).set 2 (.int .i64 p2)).set 3 (.int .i64 p3)
  have v0 := hr.cell 0
  have v1 := hr.cell 1
  have v2 := hr.cell 2
  have v3 := hr.cell 3
  simp only [List.getElem?_cons_zero, List.getElem?_cons_succ] at v0 v1 v2 v3
  refine bodyPost_ret (v := .agg #[.int .i64 p0, .int .i64 p1, .int .i64 p2, .int .i64 p3]) (by simp [results, Try.results52, go_sem, v0, v1, v2, v3]) rfl ⟨rfl, ?_⟩
  exact (((B1.out.setCell (p := ⟨w.heap.size, 0, none⟩) (Nat.le_refl _) _).setCell (p := ⟨w.heap.size, 1, none⟩) (Nat.le_refl _) _).setCell (p := ⟨w.heap.size, 2, none⟩) (Nat.le_refl _) _).setCell (p := ⟨w.heap.size, 3, none⟩) (Nat.le_refl _) _
end Go.Proofs.Ytlamppplnojpbaa
