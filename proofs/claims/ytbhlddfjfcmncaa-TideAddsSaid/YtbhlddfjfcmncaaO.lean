import Derived.Test.YtbhlddfjfcmncaaN
import Derived.Test.YtbhlddfjfcmncaaIter
import Derived.Maps.OwnIn
import Derived.Maps.OwnSet
import Derived.Test.YtbhlddfjfcmncaaShelf
import Derived.RangeFuncNested
import Derived.RangeFuncBound
import Derived.RangeFuncCalls
import Derived.RangeFuncLeaves
import Derived.Shelf.Abstract
import Derived.Shelf.RegionOpen
import Derived.WalkKit
import Derived.OwnWalkIn
import Derived.TacticsInMore
import Derived.LoopNIn
import Derived.LoopIn
import Derived.WalkSpells
import Derived.WalkLawsBesides
import Derived.BigQuiet
import Derived.Deep.QuietTactic
import Derived.Lib.Hide
import Derived.Deep.RegionHeld3
import Derived.StillTailTactics
import Derived.Lib.MakeNoZero
import Derived.Laws.CopyOwn
import Derived.Deep.RegionLaw
import Derived.Deep.LoopGhost
namespace Go.Proofs.Ytbhlddfjfcmncaa
open Go.RowKit Go.Shelf
attribute [local go_sem] Oper.semAt_some
open Go.Maps Go.Sort in
theorem sortsA (m : Nat) : AnyZI.SortsIn Try.prog Try.sortedA_ren Fence.wide m :=
  ⟨fun blk off cap ss W hH hblk hsz => callsIn_wide.2 (Try.slices_Sort_int blk off cap ss W hH hblk hsz),
   fun p cap W => callsIn_wide.2 (Try.slices_Sort_int_none p cap W)⟩

open Go.Maps in
/-- maps.Keys, then slices.Sorted -/
theorem keys_call (mb : Option Nat) (W : World) : CallsIn Fence.wide 8 Try.prog 81 #[.map mb] W fun e w' => e = .returned (.func (.func 98) #[] #[.pointer (some ⟨W.heap.size, 0, none⟩)]) ∧ w' = W.alloc (.cells #[.map mb] 95) :=
  AnyZI.keys_in Try.keysA Fence.wide 8 trivial rfl mb W

open Go.Maps Go.Shelf in
theorem sorted_call {H : Type} (b nn : Nat) (D0 : DataW H) (R : Value → Option (DataW H × List MemPlace)) (w : World) (hown : w.ownsMap Try.prog 3 R b nn D0) (hmax : Maps.size D0 ≤ maxLen) (hbytes : Maps.size D0 * 8 ≤ 140737488355328) :
    CallsIn Fence.wide 8 Try.prog 80 #[.func (.func 98) #[] #[.pointer (some ⟨w.heap.size, 0, none⟩)]] (w.alloc (.cells #[.map (some b)] 95)) fun e w' => ∃ (v : Value) (ss : List Int), e = .returned v ∧ ss.Perm (intKeys D0) ∧
      w'.ownsRow (w.heap.size + 1) 3 1 v ss.length ((ss.mergeSort (fun x y => decide (x ≤ y))).map (Value.int .i64)) ∧ Below (w.heap.size + 1) (w.alloc (.cells #[.map (some b)] 95)) w' := by
  have hbl := hown.lt
  have hseq : SeqGives Fence.wide 5 Try.prog 98 #[.pointer (some ⟨w.heap.size, 0, none⟩)] encZ (fun ss => ss.Perm (intKeys D0)) (Maps.size D0) (w.alloc (.cells #[.map (some b)] 95)) :=
    AnyZI.keys_gives (ρ := Try.keysA_ren) { Try.keysA with } Fence.wide _ trivial rfl (by omega) w.heap.size b nn D0 _ (by simp) (by simp) (by
      obtain ⟨es, clock, hb, Ft, hs, hD⟩ := hown
      exact ⟨es, clock, (Below.heap_alloc _ _ b hbl).trans hb, Ft, hs, hD⟩)
  have cS := AnyZI.sorted_in Try.sortedA Fence.wide 8 trivial trivial trivial trivial rfl (by omega) (sortsA _) (enters_of Try.func97 (by kernel_rfl) rfl) 98 #[.pointer (some ⟨w.heap.size, 0, none⟩)] trivial (enters_of Try.func98 (by kernel_rfl) rfl) _ _ hmax hbytes _ hseq
  change CallsIn _ _ Try.prog 80 _ _ _ at cS
  refine cS.mono ?_
  rintro e w' ⟨v, ss, rfl, hS, hrow, _, hb⟩
  exact ⟨v, ss, rfl, hS, by rw [size_al] at hrow; exact hrow, by rw [size_al] at hb; exact hb⟩
/-- the difference between an hour and the next one -/
def gapAt (f r : ByteArray) (i : Nat) : Nat := (nextO f r (i + 1)).getD 0 - i
def accTo (f r : ByteArray) (l : Nat) : List Nat := ((List.range l).filter fun i => decide (f.size ≤ i) && hasB f r i).map (gapAt f r)
def litI (n : Nat) : Lit := .int .i64 (n : Int)
def gapSet (acc : List Nat) : DataW Unit := Maps.setOf (.lit (.bool true)) (acc.map litI)

theorem accTo_skip (f r : ByteArray) (l : Nat) : ∀ k, l ≤ k → (∀ i, l ≤ i → i < k → hasB f r i = false) → accTo f r k = accTo f r l := by
  intro k hk hno
  obtain ⟨d, rfl⟩ : ∃ d, k = l + d := ⟨k - l, by omega⟩
  clear hk
  induction d with
  | zero => rfl
  | succ d ih =>
    rw [← ih (fun i h1 h2 => hno i h1 (by omega))]
    unfold accTo
    rw [show l + (d + 1) = (l + d) + 1 by omega, List.range_succ, List.filter_append]
    simp [hno (l + d) (by omega) (by omega)]
theorem accTo_succ (f r : ByteArray) (l : Nat) (hf : f.size ≤ l) (hl : hasB f r l = true) : accTo f r (l + 1) = accTo f r l ++ [gapAt f r l] := by
  unfold accTo
  rw [List.range_succ, List.filter_append]
  simp [hf, hl]
theorem accTo_first (f r : ByteArray) : accTo f r f.size = [] := by
  unfold accTo
  rw [List.filter_eq_nil_iff.2 (fun i hi => by
    have h2 : i < f.size := by simpa using hi
    simp; intro h3; exact absurd h3 (by omega))]
  rfl

theorem lasts_map {B bm cnt : Nat} (D : DataW Unit) (hb : bm < B) : Lasts B (fun W => W.ownsMap Try.prog 3 (plainElem Try.prog 4) bm cnt D) := fun W W' row hi hg hr =>
  World.ownsMap.kept hi hg (fun e => by have := (hr bm e.symm).1; omega)

theorem lasts_ex {α : Sort _} {B : Nat} {I : α → World → Prop} (h : ∀ x, Lasts B (I x)) : Lasts B (fun W => ∃ x, I x W) := fun W W' row ⟨x, hi⟩ hg hr => ⟨x, h x W W' row hi hg hr⟩

theorem row_grown {W W' : World} {g b : Nat} {E : TypeId} {vs : List Value} (h : Row W g E vs) (hg : W.grownBy W' (some b)) (hne : g ≠ b) : Row W' g E vs := by
  unfold Row at h ⊢
  rw [hg.block g (Array.getElem?_eq_some_iff.1 h).1 (fun e => hne (by cases e; rfl))]; exact h
theorem below_set {B : Nat} {w W : World} (h : Below B w W) {g : Nat} (hg : B ≤ g) (i : Nat) (v : Value) : Below B w (W.setCell ⟨g, i, none⟩ v) := h.setCell (p := ⟨g, i, none⟩) hg v

/-- the state of Gaps before it looks from hour h on -/
def GapsAt (f r : ByteArray) (h : Nat) (acc : List Nat) (last : Int) : Prop :=
  (h = f.size ∧ acc = [] ∧ last = -1) ∨ ∃ l, h = l + 1 ∧ f.size ≤ l ∧ l < f.size + r.size ∧ hasB f r l = true ∧ last = (l : Int) ∧ acc = accTo f r l

theorem below_put' {B l : Nat} {w W : World} {o : Obj} (h : Below B w W) (hl : B ≤ l) (hw : W.heap[l]? = some o) (o' : Obj) : Below B w (W.putObj l o') := below_put h hl hw o'

set_option maxRecDepth 100000 in
set_option maxHeartbeats 2000000 in
theorem Gaps_in (f r : ByteArray) (w : World) (ht : tideB (f, r) = true) (hend : endB r = true)
    (hinf : ∀ h, nextO f r h ≠ none) :
    CallsIn Fence.wide 9 Try.prog 36 #[.agg #[.string f, .string r]] w fun e w' => ∃ (v : Value) (ss : List Int), e = .returned (.tuple #[v, .int .i64 0]) ∧ ss.Perm (intKeys (gapSet (accTo f r (f.size + r.size)))) ∧
      w'.ownsRow w.heap.size 3 1 v ss.length ((ss.mergeSort (fun x y => decide (x ≤ y))).map (Value.int .i64)) ∧ Below w.heap.size w w' := by
  have E := checkE_ok ht
  obtain ⟨z1, z2, z3⟩ := tideB_size ht
  have HI := Lib.hid hinf
  have hmm := @run_makeMap Try.prog
  clear ht hinf
  refine callsIn_of_wp_marks Try.func36 rfl trivial ?_ rfl
  simp only [Try.ntmps36, List.size_toArray, List.length_cons, List.length_nil, Nat.reduceAdd, Nat.reduceSub, Array.replicate_succ, Array.replicate_zero, List.push_toArray, List.append_toArray, List.nil_append, List.cons_append]
  gi_wp2_with fail
  refine ⟨trivial, ?_⟩
  refine (callsIn_wide.2 (check_one (w.heap.size + 1) _ f r _ (by simp [cell_al]) (by simp [cell_al]) (size_le _ z1) (size_le _ z2))).mono ?_
  rintro e w1 ⟨rfl, hb1⟩
  obtain ⟨W0, hW0⟩ : ∃ W0, W0 = w.alloc (.cells #[.string f, .string r] 23) := ⟨_, rfl⟩
  have hsz : W0.heap.size = w.heap.size + 1 := by rw [hW0, size_al]
  have B0 : Hid (Below w.heap.size w W0) := Lib.hid (by rw [hW0]; exact (Below.refl _ _).alloc (Nat.le_refl _) _)
  have P : Hid (∀ W, Below W0.heap.size W0 W → W.cell? ⟨w.heap.size, 0, none⟩ = some (.string f) ∧ W.cell? ⟨w.heap.size, 1, none⟩ = some (.string r)) := Lib.hid (fun W h => by
    refine ⟨below_at h (by omega) ?_, below_at h (by omega) ?_⟩ <;> (rw [hW0]; simp [cell_al]))
  rw [← hW0] at hb1
  have T1 : Hid (Below W0.heap.size W0 w1) := Lib.hid (((Below.refl _ _).alloc (Nat.le_refl _) _).trans (hb1.mono (by rw [size_al]; omega)))
  have Hsz := Lib.hid hsz
  clear hb1 hW0 hsz
  obtain ⟨p0, p1⟩ := P.out w1 T1.out
  gi_wp2_with fail
  refine ⟨trivial, ?_⟩
  refine (callsIn_wide.2 (endless_any f r _)).mono ?_
  rintro e w2 ⟨rfl, hb2⟩
  have T2 : Hid (Below W0.heap.size W0 w2) := Lib.hid (Below.andThen T1.out hb2 (Nat.le_refl _))
  clear hb2 p0 p1
  obtain ⟨Va, hVa⟩ : ∃ Va, Va = ((w2.alloc (.map #[] 0)).alloc (.cells #[.map (some w2.heap.size)] 95)).alloc (.cells #[.int .i64 (-1)] 3) := ⟨_, rfl⟩
  have TVa : Below W0.heap.size W0 Va := by
    have h := T2.out.size
    rw [hVa]; exact ((T2.out.alloc h _).alloc (by rw [size_al]; omega) _).alloc (by rw [size_al, size_al]; omega) _
  obtain ⟨q0, q1⟩ := P.out Va TVa
  rw [hVa] at q0 q1
  gi_wp2_with fail
  refine ⟨trivial, ?_⟩
  refine (callsIn_wide.2 (hours_any f r f.size _)).mono ?_
  rintro e w3 ⟨rfl, rfl⟩
  obtain ⟨V, hV⟩ : ∃ V, V = (Va.alloc (.cells #[.string f, .string r] 23)).alloc (.cells #[.int .i64 (f.size : Int)] 3) := ⟨_, rfl⟩
  have h20 : w.heap.size + 1 ≤ w2.heap.size := by have := T2.out.size; have := Hsz.out; omega
  have VaS : Va.heap.size = w2.heap.size + 3 := by rw [hVa, size_al, size_al, size_al]
  have VS : V.heap.size = w2.heap.size + 5 := by rw [hV, size_al, size_al, VaS]
  have BVa : Below Va.heap.size Va V := by rw [hV]; exact ((Below.refl _ _).alloc (Nat.le_refl _) _).alloc (by rw [size_al]; omega) _
  have BV0 : Below W0.heap.size W0 V := TVa.trans (BVa.mono TVa.size)
  have BW : Below w.heap.size w V := B0.out.trans (BV0.mono (by have := Hsz.out; omega))
  have v5 : Row V (w2.heap.size + 1) 95 [.map (some w2.heap.size)] := by
    refine Row.below ?_ BVa (by omega)
    rw [hVa]
    refine Row.below (B := w2.heap.size + 2) (w := (w2.alloc (.map #[] 0)).alloc (.cells #[.map (some w2.heap.size)] 95)) ?_ ((Below.refl _ _).alloc (by rw [size_al, size_al]; omega) _) (by omega)
    have := Row.new (w2.alloc (.map #[] 0)) 95 [.map (some w2.heap.size)]
    rw [size_al] at this; exact this
  have v6 : Row V (w2.heap.size + 2) 3 [.int .i64 (-1)] := by
    refine Row.below ?_ BVa (by omega)
    rw [hVa]
    have := Row.new ((w2.alloc (.map #[] 0)).alloc (.cells #[.map (some w2.heap.size)] 95)) 3 [.int .i64 (-1)]
    rw [size_al, size_al] at this; exact this
  have vm : V.ownsMap Try.prog 3 (plainElem Try.prog 4) w2.heap.size 0 (gapSet []) := by
    rw [hV, hVa]
    exact ((((World.ownsMap_made w2 Try.prog 3 (plainElem Try.prog 4)).alloc _).alloc _).alloc _).alloc _
  have vt : V.cell? ⟨w2.heap.size + 3, 0, none⟩ = some (.string f) ∧ V.cell? ⟨w2.heap.size + 3, 1, none⟩ = some (.string r) := by
    rw [hV, ← VaS]; simp [cell_al]
  have vf : V.cell? ⟨w2.heap.size + 4, 0, none⟩ = some (.int .i64 (f.size : Int)) := by
    rw [hV, show w2.heap.size + 4 = Va.heap.size + 1 by omega]; simp [cell_al]
  have vp := P.out V BV0
  rw [hVa] at hV
  rw [← hV]
  have F := Lib.hid (And.intro VS (And.intro BW (And.intro v5 (And.intro v6 (And.intro vm (And.intro vt (And.intro vf vp)))))))
  clear hV VaS VS BVa BV0 BW v5 v6 vm vt vf vp TVa q0 q1 T1 T2
  clear hVa
  gi_wp2_with fail
  refine range_hours_slot (q := 7) 9 (w2.heap.size + 3) (w2.heap.size + 4) f r (f.size + r.size) f.size rfl z1 z2 z3 (by omega)
    (fun h W => (∃ x : Nat × List Nat × Int, (W.ownsMap Try.prog 3 (plainElem Try.prog 4) w2.heap.size x.1 (gapSet x.2.1) ∧ Row W (w2.heap.size + 2) 3 [.int .i64 x.2.2]) ∧ (GapsAt f r h x.2.1 x.2.2 ∧ x.1 ≤ h)) ∧
      (Row W (w2.heap.size + 1) 95 [.map (some w2.heap.size)] ∧ ((W.cell? ⟨w2.heap.size + 3, 0, none⟩ = some (.string f) ∧ W.cell? ⟨w2.heap.size + 3, 1, none⟩ = some (.string r)) ∧ ((W.cell? ⟨w.heap.size, 0, none⟩ = some (.string f) ∧ W.cell? ⟨w.heap.size, 1, none⟩ = some (.string r)) ∧ Below w.heap.size w W))))
    (fun c W => (∃ cnt : Nat, W.ownsMap Try.prog 3 (plainElem Try.prog 4) w2.heap.size cnt (gapSet (accTo f r (f.size + r.size))) ∧ cnt ≤ 1001) ∧ (Row W (w2.heap.size + 1) 95 [.map (some w2.heap.size)] ∧ (Below w.heap.size w W ∧ c = .exit 0)))
    (fun h => ?hI) (fun c => ?hIx) ?hc ?hbd ?hBf ?hi0 ?hassign ?hbody ?hdone ?hstop
  case hI =>
    have := F.out.1
    refine (lasts_ex fun x => ((lasts_map _ (by omega)).and (lasts_row _ _ _ _)).and (lasts_pure _ _)).and ((lasts_row _ _ _ _).and (((lasts_cell _ _ _).and (lasts_cell _ _ _)).and (((lasts_cell _ _ _).and (lasts_cell _ _ _)).and (lasts_below _ _ _ (by omega) (Nat.le_refl _)))))
  case hIx =>
    have := F.out.1
    refine (lasts_ex fun x => (lasts_map _ (by omega)).and (lasts_pure _ _)).and ((lasts_row _ _ _ _).and ((lasts_below _ _ _ (by omega) (Nat.le_refl _)).and (lasts_pure _ _)))
  case hc => exact fun h W hi => hi.2.2.1
  case hbd =>
    rintro h W ⟨⟨x, _, ⟨hg, _⟩⟩, _⟩
    rcases hg with ⟨h1, _⟩ | ⟨l, h1, h2, h3, _⟩ <;> omega
  case hBf => exact F.out.2.2.2.2.2.2.1
  case hi0 =>
    obtain ⟨VS, BW, v5, v6, vm, vt, vf, vp⟩ := F.out
    exact ⟨⟨(0, [], -1), ⟨vm, v6⟩, .inl ⟨rfl, rfl, rfl⟩, Nat.zero_le _⟩, v5, vt, vp, BW⟩
  case hassign =>
    intro l k W K hK
    gi_wp2
    exact hK
  case hbody =>
    rintro l h k W ⟨⟨⟨cnt, acc, last⟩, ⟨hown, h6⟩, hg, hcnt⟩, h5, ht, ⟨p0, p1⟩, hB⟩ hn
    simp only [List.setIfInBounds_toArray, List.set_cons_succ, List.set_cons_zero]
    simp only at hown h6 hg hcnt
    have hk0 := findFrom_ge hn
    have hS := findFrom_some hn
    have VSz := F.out.1
    have c5 := h5.cell 0
    have c6 := h6.cell 0
    have f6 := h6.frozen 0
    simp only [List.getElem?_cons_zero] at c5 c6
    have T0 := Lib.hid ht
    clear ht
    have HB := Lib.hid hB
    have H5 := Lib.hid h5
    have H6 := Lib.hid h6
    rcases hg with ⟨rfl, rfl, rfl⟩ | ⟨la, rfl, hl1, hl2, hl3, rfl, rfl⟩
    · have A0 : Hid (accTo f r k = []) := Lib.hid (by rw [accTo_skip f r f.size k hk0.1 hS.2, accTo_first])
      have hk1 : f.size ≤ k := hk0.1
      have hk2 : k < f.size + r.size := by have := hk0.2; omega
      have HK := Lib.hid hS.1
      have OWN := Lib.hid hown
      clear hk0 hS hn hown hB h5 h6
      gi_wp2_with fail
      refine ⟨(KeepsOthers.setCell _ _ _).from _, ⟨(cnt, [], (k : Int)), ⟨?_, ?_⟩, .inr ⟨k, rfl, hk1, hk2, HK.out, rfl, A0.out.symm⟩, by show cnt ≤ k + 1; omega⟩, ?_, ⟨?_, ?_⟩, ⟨?_, ?_⟩, ?_⟩
      · exact World.ownsMap.kept OWN.out (grownBy_set (grownBy_refl W _) 0 _) (fun e => by have := Option.some.inj e; omega)
      · exact H6.out.set 0 _
      · exact row_grown H5.out (grownBy_set (grownBy_refl W _) 0 _) (by omega)
      · exact grownBy_cell (grownBy_set (grownBy_refl W _) 0 _) T0.out.1 (by omega)
      · exact grownBy_cell (grownBy_set (grownBy_refl W _) 0 _) T0.out.2 (by omega)
      · exact grownBy_cell (grownBy_set (grownBy_refl W _) 0 _) p0 (by omega)
      · exact grownBy_cell (grownBy_set (grownBy_refl W _) 0 _) p1 (by omega)
      · exact below_set HB.out (by omega) 0 _
    · have hk1 : la + 1 ≤ k := hk0.1
      have hk9 : k ≤ 1000 := by have := hk0.2; omega
      have A1 : Hid (accTo f r k = accTo f r la ++ [k - la]) := Lib.hid (by
        rw [accTo_skip f r (la + 1) k hk0.1 hS.2, accTo_succ f r la hl1 hl3]
        unfold gapAt; rw [hn]; rfl)
      have A2 : Hid (f.size + r.size ≤ k → accTo f r k = accTo f r (f.size + r.size)) := Lib.hid (fun hbig => by
        rw [accTo_skip f r (la + 1) k hk0.1 hS.2, accTo_skip f r (la + 1) (f.size + r.size) (by omega) (fun i h1 h2 => hS.2 i h1 (by omega))])
      have HK := Lib.hid hS.1
      have ekl : Hid ((k : Int) - (la : Int) = ((k - la : Nat) : Int)) := Lib.hid (by omega)
      have hwf : (Lit.int .i64 ((k : Int) - (la : Int))).wf = true := WalkArith.wf_i64 (by omega)
      have hcm : cnt < maxLen := by unfold maxLen; omega
      have PUT : Hid ((gapSet (accTo f r la)).put (.int .i64 ((k : Int) - (la : Int))) (.lit (.bool true)) = gapSet (accTo f r k)) := Lib.hid (by
        rw [A1.out, ekl.out]; unfold gapSet; rw [List.map_append]; exact (Maps.setOf_snoc _ _ _).symm)
      clear hk0 hS hn hB h5 h6
      by_cases hbig : f.size + r.size ≤ k
      · have A2' := Lib.hid (A2.out hbig)
        gi_wp2_with (gi_at_mapUpdate; refine wpListIn_mapUpdate_own _ rfl _ _ _ 95 rfl 3 4 (Maps.int_keyed Try.underlying3) Try.underlying95 _ w2.heap.size cnt _ rfl hown hcm _ _ _ rfl rfl (Maps.keyOf_int_mk Try.underlying3 hwf) _ [] (plainElem_bool Try.underlying4 true) ?_; intro w4 hown4 hgrow4; have OWN4 := Lib.hid hown4; have GR4 := Lib.hid hgrow4; have d0 := grownBy_cell hgrow4 p0 (by omega); have d1 := grownBy_cell hgrow4 p1 (by omega); have d5 := grownBy_cell hgrow4 c5 (by omega); have d6 := grownBy_cell hgrow4 c6 (by omega); clear hown4 hgrow4)
        refine ⟨KeepsFrom.of_grownBy GR4.out (fun j e => by cases e; omega), ⟨cnt + 1, ?_, by omega⟩, ?_, ?_, rfl⟩
        · have h := OWN4.out; rw [PUT.out, A2'.out] at h; exact h
        · exact row_grown H5.out GR4.out (by omega)
        · exact HB.out.grown GR4.out HB.out.size (fun j e => by cases e; omega)
      · gi_wp2_with (gi_at_mapUpdate; refine wpListIn_mapUpdate_own _ rfl _ _ _ 95 rfl 3 4 (Maps.int_keyed Try.underlying3) Try.underlying95 _ w2.heap.size cnt _ rfl hown hcm _ _ _ rfl rfl (Maps.keyOf_int_mk Try.underlying3 hwf) _ [] (plainElem_bool Try.underlying4 true) ?_; intro w4 hown4 hgrow4; have OWN4 := Lib.hid hown4; have GR4 := Lib.hid hgrow4; have d0 := grownBy_cell hgrow4 p0 (by omega); have d1 := grownBy_cell hgrow4 p1 (by omega); have d5 := grownBy_cell hgrow4 c5 (by omega); have d6 := grownBy_cell hgrow4 c6 (by omega); have e6 := row_grown H6.out hgrow4 (by omega); have g6 := e6.frozen 0; have E6 := Lib.hid e6; clear hown4 hgrow4 e6)
        refine ⟨(KeepsFrom.of_grownBy GR4.out (fun j e => by cases e; omega)).trans ((KeepsOthers.setCell _ _ _).from _), ⟨(cnt + 1, accTo f r k, (k : Int)), ⟨?_, ?_⟩, .inr ⟨k, rfl, by omega, by omega, HK.out, rfl, rfl⟩, by show cnt + 1 ≤ k + 1; omega⟩, ?_, ⟨?_, ?_⟩, ⟨?_, ?_⟩, ?_⟩
        · have h := OWN4.out; rw [PUT.out] at h
          exact World.ownsMap.kept h (grownBy_set (grownBy_refl _ _) 0 _) (fun e => by have := Option.some.inj e; omega)
        · exact E6.out.set 0 _
        · exact row_grown (row_grown H5.out GR4.out (by omega)) (grownBy_set (grownBy_refl _ _) 0 _) (by omega)
        · exact grownBy_cell (grownBy_set (grownBy_refl _ _) 0 _) (grownBy_cell GR4.out T0.out.1 (by omega)) (by omega)
        · exact grownBy_cell (grownBy_set (grownBy_refl _ _) 0 _) (grownBy_cell GR4.out T0.out.2 (by omega)) (by omega)
        · exact grownBy_cell (grownBy_set (grownBy_refl _ _) 0 _) d0 (by omega)
        · exact grownBy_cell (grownBy_set (grownBy_refl _ _) 0 _) d1 (by omega)
        · exact below_set (HB.out.grown GR4.out HB.out.size (fun j e => by cases e; omega)) (by omega) 0 _
  case hdone =>
    rintro D h W hD hn _ _
    exact (HI.out h hn).elim
  case hstop =>
    rintro D c W hD ⟨⟨cnt, hown, hcnt⟩, h5, hB, rfl⟩ hK
    have c5 := h5.cell 0
    simp only [List.getElem?_cons_zero] at c5
    have hsize := World.ownsMap.size_le hown
    have CS := Lib.hid (sorted_call w2.heap.size cnt _ _ W hown (by unfold maxLen; omega) (by omega))
    have HB := Lib.hid hB
    have HD := Lib.hid hD
    have HK := Lib.hid hK
    have VSz := F.out.1
    clear hown h5 hB hD hK hsize
    gi_wp2_with fail
    refine ⟨trivial, ?_⟩
    refine (keys_call _ _).mono ?_
    rintro e w5 ⟨rfl, rfl⟩
    gi_wp2_with fail
    refine ⟨trivial, ?_⟩
    refine CS.out.mono ?_
    rintro e w6 ⟨v, ss, rfl, hS, hrow, hb⟩
    have D6 : w6.heap[D]? = some (.deferred (some [])) := by
      have hlt := (Array.getElem?_eq_some_iff.1 HK.out).1
      rw [hb.block D (by omega), Below.heap_alloc _ _ _ hlt]; exact HK.out
    have B6 : Below w.heap.size w w6 := HB.out.trans (((Below.refl _ _).alloc (by have := HB.out.size; omega) _).trans (hb.mono (by have := HB.out.size; omega)))
    have HB6 := Lib.hid B6
    have HD6 := Lib.hid D6
    have HS := Lib.hid hS
    have HR := Lib.hid hrow
    clear hS hrow hb B6 D6 CS
    gi_wp2_with fail
    refine ⟨by simp, .inl ⟨_, _, rfl, run_takeDeferred HD6.out, ?_⟩⟩
    refine ⟨_, results_tmp2 rfl _ _ _, v, ss, rfl, HS.out, ?_, ?_⟩
    · obtain ⟨h1, h2⟩ := HR.out
      refine ⟨h1, ?_⟩
      rcases h2 with h2 | ⟨g, cap, cur, hv, hg, hh, hr⟩
      · exact .inl h2
      · refine .inr ⟨g, cap, cur, hv, by have := HB.out.size; omega, ?_, hr⟩
        rw [World.putObj_heap_other (fun e => by rw [e, HD6.out] at hh; cases hh)]
        exact hh
    · exact below_put HB6.out (by have := HD.out; omega) HD6.out _
end Go.Proofs.Ytbhlddfjfcmncaa
