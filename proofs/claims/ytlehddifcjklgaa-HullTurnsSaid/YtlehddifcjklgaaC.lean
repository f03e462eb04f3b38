import Derived.Test.YtlehddifcjklgaaCut
import Derived.Maps.OwnIn
import Derived.Maps.OwnSet
import Derived.Maps.AppendAt
import Derived.RangeFuncNested
import Derived.RangeFuncBound
import Derived.RangeFuncCalls
import Derived.RangeFuncLeaves
import Derived.Shelf.Abstract
import Derived.Shelf.RegionOpen
import Derived.WalkKit
import Derived.OwnWalkIn
import Derived.TacticsInMore
import Derived.LoopNIn
import Derived.LoopIn
import Derived.Sort.QuietThIn
import Derived.Sort.QuietTacIn
import Derived.Sort.BigQuietIn
import Derived.WalkSpells
import Derived.WalkLawsBesides
import Derived.BigQuiet
import Derived.Deep.QuietTactic
import Derived.Lib.Hide
import Derived.Deep.RegionHeld3
import Derived.StillTailTactics
import Derived.Deep.LoopGhost
import Derived.Lib.IndexAny
namespace Go.Proofs.Ytlehddifcjklgaa
open Go.RowKit Go.Shelf
attribute [local go_sem] Oper.semAt_some
/-- the blocks b and Bs lie as they lay -/
def Keeps2 (b Bs : Nat) (W W' : World) : Prop := W.heap.size ≤ W'.heap.size ∧ W'.heap[b]? = W.heap[b]? ∧ W'.heap[Bs]? = W.heap[Bs]?
theorem Keeps2.refl (b Bs : Nat) (W : World) : Keeps2 b Bs W W := ⟨Nat.le_refl _, rfl, rfl⟩
theorem Keeps2.trans {b Bs : Nat} {A B C : World} (h : Keeps2 b Bs A B) (k : Keeps2 b Bs B C) : Keeps2 b Bs A C := ⟨Nat.le_trans h.1 k.1, k.2.1.trans h.2.1, k.2.2.trans h.2.2⟩
theorem Keeps2.of_below {b Bs B : Nat} {W W' : World} (h : Below B W W') (h1 : b < B) (h2 : Bs < B) : Keeps2 b Bs W W' := ⟨h.size, h.block b h1, h.block Bs h2⟩
theorem Keeps2.put {b Bs l : Nat} (h1 : b < l) (h2 : Bs < l) (W : World) (o : Obj) : Keeps2 b Bs W (W.putObj l o) :=
  ⟨by simp, World.putObj_heap_other (by omega), World.putObj_heap_other (by omega)⟩
theorem Keeps2.cell2 {b Bs o : Nat} {W W' : World} (h : Keeps2 b Bs W W') {v : Value} (hv : W.cell? ⟨Bs, o, none⟩ = some v) : W'.cell? ⟨Bs, o, none⟩ = some v :=
  (World.cell?_of_block (w := W) (a := ⟨Bs, o, none⟩) h.2.2).trans hv
theorem Keeps2.cell1 {b Bs o : Nat} {W W' : World} (h : Keeps2 b Bs W W') {v : Value} (hv : W.cell? ⟨b, o, none⟩ = some v) : W'.cell? ⟨b, o, none⟩ = some v :=
  (World.cell?_of_block (w := W) (a := ⟨b, o, none⟩) h.2.1).trans hv
theorem PtsAt.keep2 {b Bs o : Nat} {W W' : World} {ps : List Pt} (h : PtsAt W b o ps) (k : Keeps2 b Bs W W') : PtsAt W' b o ps :=
  ⟨Nat.lt_of_lt_of_le h.lt k.1, fun i hi => k.cell1 (h.x i hi), fun i hi => k.cell1 (h.y i hi)⟩
/-- what comes of corner i of ps: its number, and its neighbours with it -/
def encC (ps : List Pt) (i : Nat) : Array Value := #[.int .i64 (i : Int), .agg #[.int .i64 (pv ps i).1, .int .i64 (pv ps i).2, .int .i64 (ptAt ps i).1, .int .i64 (ptAt ps i).2, .int .i64 (nx ps i).1, .int .i64 (nx ps i).2]]
theorem ptAt_lt {ps : List Pt} {i : Nat} (h : i < ps.length) : ptAt ps i = ps[i] := by
  unfold ptAt; simp [h]
def upto (k : Nat) : List Nat := List.range k
theorem upto_succ (k : Nat) : upto (k + 1) = upto k ++ [k] := by simp [upto, List.range_succ]
set_option maxRecDepth 100000 in
set_option maxHeartbeats 1000000 in
theorem corners1_in (n : Nat) (l Bs b c : Nat) (ps : List Pt) (h3 : 3 ≤ ps.length) (h12 : ps.length ≤ 12) (J Jx : List Nat → World → Prop)
    (hJa : ∀ pre W W', J pre W → Below W.heap.size W W' → J pre W')
    (hY : ∀ pre (x : Nat) W, J pre W → pre = upto x → x < ps.length → YieldAt Fence.wide (n - 1) Try.prog l (encC ps x) W fun e W' =>
      (e = .returned (.bool true) ∧ J (pre ++ [x]) W' ∧ Keeps2 b Bs W W') ∨ (e = .returned (.bool false) ∧ Jx (pre ++ [x]) W'))
    (W : World) (hBs : W.cell? ⟨Bs, 0, none⟩ = some (.slice (some ⟨b, 0, none⟩) ps.length c)) (hc : PtsAt W b 0 ps) (h0 : J [] W) (hBl : Bs < W.heap.size) :
    CallsIn Fence.wide n Try.prog 97 #[.func (.yield l) #[] #[], .pointer (some ⟨Bs, 0, none⟩)] W fun e W' => (∃ v, e = .returned v) ∧
      ((∃ ys, ys = upto ps.length ∧ J ys W') ∨ (∃ k, 1 ≤ k ∧ k ≤ ps.length ∧ Jx (upto k) W')) := by
  refine callsIn_of_wp Try.func97 rfl trivial ?_ rfl
  simp only [Try.ntmps97, List.size_toArray, List.length_cons, List.length_nil, Nat.reduceAdd, Nat.reduceSub, Array.replicate_succ, Array.replicate_zero, List.push_toArray, List.append_toArray, List.nil_append, List.cons_append]
  have HC := Lib.hid hc
  have HY := Lib.hid hY
  have HJA := Lib.hid hJa
  have H0 := Lib.hid h0
  clear hc hY hJa h0
  gi_wp2_with fail
  gi_loopw [10] (fun i wr => ∃ k : Nat, k ≤ ps.length ∧ i = .int .i64 k ∧ Hid (J (upto k) wr) ∧ Hid (Keeps2 b Bs W wr))
    (fun i _ => ps.length - (intOf i).toNat)
  case atStart => exact ⟨0, Nat.zero_le _, rfl, H0, Lib.hid (Keeps2.refl _ _ _)⟩
  case round =>
    obtain ⟨k, hk, rfl, HJ, HB⟩ := hrel
    have y0 := HB.out.cell2 hBs
    by_cases hlt : k < ps.length
    · have hd : decide ((k : Int) < (ps.length : Int)) = true := by simp; omega
      have HP := HC.out.keep2 HB.out
      have hx := HP.x k hlt
      have hy := HP.y k hlt
      have hkp : (k + ps.length - 1) % ps.length < ps.length := Nat.mod_lt _ (by omega)
      have hkn : (k + 1) % ps.length < ps.length := Nat.mod_lt _ (by omega)
      have hx1 := HP.x _ hkp
      have hy1 := HP.y _ hkp
      have hx2 := HP.x _ hkn
      have hy2 := HP.y _ hkn
      have e1 : IntKind.i64.wrap ((k : Int) + (ps.length : Int)) = ((k + ps.length : Nat) : Int) := by rw [i64_of _ (by omega) (by omega)]; omega
      have e2 : IntKind.i64.wrap (((k + ps.length : Nat) : Int) - 1) = ((k + ps.length - 1 : Nat) : Int) := by rw [i64_of _ (by omega) (by omega)]; omega
      have e3 : (((k + ps.length - 1 : Nat) : Int)).tmod (ps.length : Int) = (((k + ps.length - 1) % ps.length : Nat) : Int) := by rw [← Int.ofNat_tmod]
      have e4 : IntKind.i64.wrap ((k : Int) + 1) = ((k + 1 : Nat) : Int) := by rw [i64_of _ (by omega) (by omega)]; omega
      have e5 : (((k + 1 : Nat) : Int)).tmod (ps.length : Int) = (((k + 1) % ps.length : Nat) : Int) := by rw [← Int.ofNat_tmod]
      have e7 : ((k : Int) + 1) % (ps.length : Int) = (((k + 1) % ps.length : Nat) : Int) := by rw [show (k : Int) + 1 = ((k + 1 : Nat) : Int) by omega]; rfl
      have e8 : ((k : Int) + (ps.length : Int) - 1) % (ps.length : Int) = (((k + ps.length - 1) % ps.length : Nat) : Int) := by
        rw [show (k : Int) + (ps.length : Int) - 1 = ((k + ps.length - 1 : Nat) : Int) by omega]; rfl
      have e9 : (((k + ps.length - 1 : Nat) : Int)) % (ps.length : Int) = (((k + ps.length - 1) % ps.length : Nat) : Int) := rfl
      have e11 : IntKind.i64.wrap ((k : Int) + (ps.length : Int) - 1) = ((k + ps.length - 1 : Nat) : Int) := by rw [i64_of _ (by omega) (by omega)]; omega
      have e6 : ¬ ((ps.length : Int) = 0) := by omega
      have hEnc : encC ps k = #[.int .i64 (k : Int), .agg #[.int .i64 ps[(k + ps.length - 1) % ps.length].1, .int .i64 ps[(k + ps.length - 1) % ps.length].2, .int .i64 ps[k].1, .int .i64 ps[k].2, .int .i64 ps[(k + 1) % ps.length].1, .int .i64 ps[(k + 1) % ps.length].2]] := by
        unfold encC pv nx; rw [ptAt_lt hkp, ptAt_lt hkn, ptAt_lt hlt]
      rw [Nat.zero_add] at hx hy hx1 hy1 hx2 hy2
      generalize hgp : (k + ps.length - 1) % ps.length = kp at *
      generalize hgn : (k + 1) % ps.length = kn at *
      clear hgp hgn
      have HE := Lib.hid hEnc
      clear hEnc
      generalize ps[kp] = pp at *
      generalize ps[kn] = pn at *
      generalize ps[k] = pk at *
      obtain ⟨V, hV⟩ : ∃ V, V = wr.alloc (.cells #[.int .i64 pk.1, .int .i64 pk.2] 58) := ⟨_, rfl⟩
      have hbV : Below wr.heap.size wr V := by rw [hV]; exact (Below.refl _ _).alloc (Nat.le_refl _) _
      have b1 : b < wr.heap.size := HP.lt
      have b2 : Bs < wr.heap.size := Nat.lt_of_lt_of_le hBl HB.out.1
      have z0 := below_at hbV b2 y0
      have z1 := below_at hbV b1 hx1
      have z2 := below_at hbV b1 hy1
      have z3 := below_at hbV b1 hx2
      have z4 := below_at hbV b1 hy2
      have z5 : V.cell? ⟨wr.heap.size, 0, none⟩ = some (.int .i64 pk.1) := by rw [hV]; simp [cell_al]
      have z6 : V.cell? ⟨wr.heap.size, 1, none⟩ = some (.int .i64 pk.2) := by rw [hV]; simp [cell_al]
      gi_wp2_with fail
      rw [← hV]
      clear hx1 hy1 hx2 hy2 hx hy hV y0
      have HJ2 := HJA.out _ _ V.drew HJ.out (Below.andThen hbV (Below.refl _ _).drew (Nat.le_refl _))
      obtain ⟨fn, tmps, assign, body, hyy, hR⟩ := HY.out (upto k) k V.drew HJ2 rfl hlt
      rw [HE.out] at hyy
      have hR2 := hR.mono (R' := fun e W' => ∃ bb, e = .returned (.bool bb) ∧ Hid ((bb = true ∧ J (upto k ++ [k]) W' ∧ Keeps2 b Bs V.drew W') ∨ (bb = false ∧ Jx (upto k ++ [k]) W'))) (by
        rintro e W' (⟨rfl, h⟩ | ⟨rfl, h⟩)
        · exact ⟨true, rfl, Lib.hid (.inl ⟨rfl, h⟩)⟩
        · exact ⟨false, rfl, Lib.hid (.inr ⟨rfl, h⟩)⟩)
      have HR := Lib.hid hR2
      have e10 : ((ps.length : Int) == 0) = false := beq_eq_false_iff_ne.2 (by omega)
      clear hR hR2
      refine wpIn_region_cut (C := fun w' => w' = V.drew) 20 rfl (by kernel_rfl) (by kernel_rfl) rfl ?_
      simp only [List.take_succ_cons, List.take_zero, List.drop_succ_cons, List.drop_zero]
      clear H0
      repeat (gi_big_quiet_step (fail))
      refine wpQuietIn_nil ?_
      rintro _ rfl
      gi_wp2_with fail
      refine ⟨(fun h => by cases h), ?_⟩
      refine HR.out.mono ?_
      rintro e W3 ⟨bb, rfl, hp⟩
      cases bb
      · have hx2 : Jx (upto k ++ [k]) W3 := by
          rcases hp.out with ⟨h, _⟩ | ⟨_, h⟩
          · cases h
          · exact h
        have HX := Lib.hid hx2
        clear hx2 hp hyy HR
        gi_wp2_with fail
        refine bodyPost_ret (results_none rfl _ _ _) rfl ?_
        exact ⟨⟨_, rfl⟩, .inr ⟨k + 1, by omega, by omega, by rw [upto_succ]; exact HX.out⟩⟩
      · have hx2 : J (upto k ++ [k]) W3 ∧ Keeps2 b Bs V.drew W3 := by
          rcases hp.out with ⟨_, h⟩ | ⟨h, _⟩
          · exact h
          · cases h
        have HX := Lib.hid hx2
        clear hx2 hp hyy HR
        gi_wp2_with fail
        go_roundw
        case rel => exact ⟨k + 1, by omega, rfl, Lib.hid (by rw [upto_succ]; exact HX.out.1), Lib.hid (HB.out.trans ((Keeps2.of_below (Below.andThen hbV (Below.refl _ _).drew (Nat.le_refl _)) b1 b2).trans HX.out.2))⟩
        case measure => simp [intOf]; omega
    · obtain rfl : k = ps.length := by omega
      have hd : decide ((ps.length : Int) < (ps.length : Int)) = false := by simp
      gi_wp2_with fail
      go_end0
      exact ⟨⟨_, rfl⟩, .inl ⟨_, rfl, HJ.out⟩⟩

set_option maxHeartbeats 400000 in
theorem corners_any (v : Option Addr) (len cap : Nat) (w : World) :
    Calls Try.prog 63 #[.slice v len cap] w fun e w' => e = .returned (.func (.func 97) #[] #[.pointer (some ⟨w.heap.size, 0, none⟩)]) ∧ w' = w.alloc (.cells #[.slice v len cap] 22) := by
  go_enter Try.func63, Try.ntmps63
  go_wp2
  go_ret
  exact ⟨rfl, rfl⟩

/-- **the corners of a list of points come one after the other** -/
theorem corners_stops (n Bs b c : Nat) (ps : List Pt) (h3 : 3 ≤ ps.length) (h12 : ps.length ≤ 12) (w : World) (hBs0 : Bs < w.heap.size)
    (hBs : w.cell? ⟨Bs, 0, none⟩ = some (.slice (some ⟨b, 0, none⟩) ps.length c)) (hc : PtsAt w b 0 ps) :
    SeqStopsK Fence.wide n Try.prog 97 #[.pointer (some ⟨Bs, 0, none⟩)] (fun x : Fin ps.length => encC ps x.1) (Keeps2 b Bs) (fun ys => ys.map Fin.val = upto ps.length) (fun _ => True) ps.length w := fun l J Jx W hW hJ _ hY h0 => by
  refine (corners1_in n l Bs b c ps h3 h12 (fun pre W' => ∃ pf : List (Fin ps.length), pf.map Fin.val = pre ∧ J pf W' ∧ W.heap.size ≤ W'.heap.size) (fun _ W' => ∃ pf, Jx pf W') ?_ ?_ W (below_at hW hBs0 hBs) (hc.grow hW) ⟨[], rfl, h0, Nat.le_refl _⟩ (Nat.lt_of_lt_of_le hBs0 hW.size)).mono ?_
  · rintro pre A B ⟨pf, hp, hA, hs⟩ hb
    exact ⟨pf, hp, hJ pf A B none hA ⟨hb.os, hb.tape, hb.output, hb.size, fun k hk _ => hb.block k hk⟩ (fun r e => by cases e), Nat.le_trans hs hb.size⟩
  · rintro pre x A ⟨pf, hp, hA, hs⟩ hpre hlt
    obtain ⟨fn, tmps, assign, body, hy, hR⟩ := hY pf ⟨x, hlt⟩ A hA (by
      have : pf.length = (upto x).length := by rw [← hpre, ← hp, List.length_map]
      rw [this]; simp [upto]; exact hlt)
    refine ⟨fn, tmps, assign, body, hy, hR.mono ?_⟩
    rintro e W' (⟨he, h1, h2⟩ | ⟨he, h1⟩)
    · exact .inl ⟨he, ⟨_, by rw [List.map_append, hp]; rfl, h1, Nat.le_trans hs h2.1⟩, h2⟩
    · exact .inr ⟨he, _, h1⟩
  · rintro e W' ⟨he, ⟨ys, rfl, pf, hp, hj, _⟩ | ⟨k, hk1, hk2, pf, hj⟩⟩
    · exact ⟨he, .inl ⟨_, hp, hj⟩⟩
    · exact ⟨he, .inr ⟨_, trivial, hj⟩⟩
/-- a fact on worlds that outlives new blocks, and what happens to blocks from B on that are no cells -/
def Lasts (B : Nat) (I : World → Prop) : Prop :=
  ∀ W W' row, I W → W.grownBy W' row → (∀ r, row = some r → B ≤ r ∧ ∃ o : Obj, W.heap[r]? = some o ∧ o.isCells = false) → I W'
theorem Lasts.put {B : Nat} {I : World → Prop} (h : Lasts B I) {W : World} {l : Nat} {o : Obj} (o' : Obj) (hi : I W) (hB : B ≤ l) (hl : W.heap[l]? = some o) (ho : o.isCells = false) : I (W.putObj l o') :=
  h W _ (some l) hi (grownBy_putObj' W l o') (fun r e => by cases e; exact ⟨hB, o, hl, ho⟩)
theorem Lasts.grow {B : Nat} {I : World → Prop} (h : Lasts B I) {W W' : World} (hi : I W) (hb : Below W.heap.size W W') : I W' :=
  h W W' none hi ⟨hb.os, hb.tape, hb.output, hb.size, fun k hk _ => hb.block k hk⟩ (fun r e => by cases e)
theorem Lasts.and {B : Nat} {I I' : World → Prop} (h : Lasts B I) (h' : Lasts B I') : Lasts B (fun W => I W ∧ I' W) := fun W W' row hi hg hr => ⟨h W W' row hi.1 hg hr, h' W W' row hi.2 hg hr⟩
theorem lasts_pure (B : Nat) (p : Prop) : Lasts B (fun _ => p) := fun _ _ _ hi _ _ => hi
theorem lasts_size (B m : Nat) : Lasts B (fun W => m ≤ W.heap.size) := fun _ _ _ hi hg _ => Nat.le_trans hi hg.size
theorem lasts_below (B n₀ : Nat) (w : World) (hB : n₀ ≤ B) (hw : n₀ ≤ w.heap.size) : Lasts B (fun W => Below n₀ w W) := fun _ _ _ hi hg hr =>
  hi.grown hg (Nat.le_trans hw hi.size) (fun k e => Nat.le_trans hB (hr k e).1)
theorem lasts_row (B g : Nat) (E : TypeId) (vs : List Value) : Lasts B (fun W => Row W g E vs) := fun W W' row hi hg hr => by
  show W'.heap[g]? = _
  rw [hg.block g (Row.lt hi) (fun e => by
    obtain ⟨_, o, ho, hc⟩ := hr g e.symm
    rw [show W.heap[g]? = _ from hi] at ho; cases ho; cases hc)]
  exact hi
theorem lasts_cell (B : Nat) (a : Addr) (v : Value) : Lasts B (fun W => W.cell? a = some v) := fun _ _ _ hi hg hr => cell_kept hi hg (fun r e => (hr r e).2)
theorem Lasts.own {B : Nat} {β : Type} {I : β → World → Prop} (h : ∀ s, Lasts B (I s)) : OwnFrom B I := fun s W W' row hi hg hr => h s W W' row hi hg hr
/-- corner x of ps with its neighbours lies in block Bx -/
structure CornerAt (W : World) (Bx : Nat) (ps : List Pt) (x : Nat) : Prop where
  row : W.heap[Bx]? = some (.cells #[.int .i64 (pv ps x).1, .int .i64 (pv ps x).2, .int .i64 (ptAt ps x).1, .int .i64 (ptAt ps x).2, .int .i64 (nx ps x).1, .int .i64 (nx ps x).2] 76 (0, 0))
  lt : Bx < W.heap.size
  c0 : W.cell? ⟨Bx, 0, none⟩ = some (.int .i64 (pv ps x).1)
  c1 : W.cell? ⟨Bx, 1, none⟩ = some (.int .i64 (pv ps x).2)
  c2 : W.cell? ⟨Bx, 2, none⟩ = some (.int .i64 (ptAt ps x).1)
  c3 : W.cell? ⟨Bx, 3, none⟩ = some (.int .i64 (ptAt ps x).2)
  c4 : W.cell? ⟨Bx, 4, none⟩ = some (.int .i64 (nx ps x).1)
  c5 : W.cell? ⟨Bx, 5, none⟩ = some (.int .i64 (nx ps x).2)
def cornerCells (ps : List Pt) (x : Nat) : Array Value := #[.int .i64 (pv ps x).1, .int .i64 (pv ps x).2, .int .i64 (ptAt ps x).1, .int .i64 (ptAt ps x).2, .int .i64 (nx ps x).1, .int .i64 (nx ps x).2]
theorem CornerAt.new (W : World) (ps : List Pt) (x : Nat) : CornerAt (W.alloc (.cells (cornerCells ps x) 76)) W.heap.size ps x :=
  ⟨heap_alloc_new W _, by rw [size_al]; omega, by simp [cell_al, cornerCells], by simp [cell_al, cornerCells], by simp [cell_al, cornerCells], by simp [cell_al, cornerCells], by simp [cell_al, cornerCells], by simp [cell_al, cornerCells]⟩
/-- how a round's body may be left -/
def roundEnds (B b Bs : Nat) (I : List Nat → World → Prop) (Ix : Code → World → Prop) (xs : List Nat) (W : World) : Exit → Act → World → Prop
  | .normal, _, W' => KeepsFrom B W W' ∧ Keeps2 b Bs W W' ∧ I xs W'
  | .ret, _, W' => KeepsFrom B W W' ∧ Ix .ret W'
  | .exit id, _, W' => KeepsFrom B W W' ∧ Ix (.exit id) W'
  | _, _, _ => False
/-- **a range over the corners of a list of points whose variable lies in a box of its own each round** -/
theorem range_corners {g : Operand} {p0 p1 : Tmp} {assign body : Code} {Q : Exit → Act → World → Prop} {a : Act} {w : World} (n Bs b c : Nat) (hn : 1 ≤ n) (ps : List Pt) (h3 : 3 ≤ ps.length) (h12 : ps.length ≤ 12)
    (hg : a.eval g = .func (.func 97) #[] #[.pointer (some ⟨Bs, 0, none⟩)]) (hBs0 : Bs < w.heap.size)
    (hBs : w.cell? ⟨Bs, 0, none⟩ = some (.slice (some ⟨b, 0, none⟩) ps.length c)) (hc : PtsAt w b 0 ps)
    (I : List Nat → World → Prop) (Ix : Code → World → Prop) (hI : ∀ k, Lasts w.heap.size (I k)) (hIx : ∀ c, Lasts w.heap.size (Ix c)) (h0 : I [] w) (a₁ : Nat → Nat → Act)
    (hassign : ∀ (l x : Nat) (W : World) (K : Act → World → Prop), K (a₁ x W.heap.size) (W.alloc (.cells (cornerCells ps x) 76)) →
      assign.wpIn (Fence.wide.inRound l) (n - 1 - 1) Try.prog (Exit.then K (fun _ _ _ => False)) { tmps := (a.tmps.setIfInBounds p0 (.int .i64 (x : Int))).setIfInBounds p1 (.agg (cornerCells ps x)), defers := [] } W)
    (hbody : ∀ (l x Bx : Nat) (pre : List Nat) (W : World), x < ps.length → w.heap.size ≤ Bx → w.heap.size ≤ W.heap.size → CornerAt W Bx ps x → I pre W → pre.length < ps.length → (∀ y ∈ pre, y < ps.length) → body.wpIn (Fence.wide.inRound l) (n - 1 - 1) Try.prog (roundEnds w.heap.size b Bs I Ix (pre ++ [x]) W) (a₁ x Bx) W)
    (hdone : ∀ (D : Nat) (W : World), w.heap.size ≤ D → I (upto ps.length) W → W.heap[D]? = some (.deferred (some [])) → Q .normal { a with defers := { target := .collected D, args := #[] } :: a.defers } W)
    (hstop : ∀ (D : Nat) (c : Code) (W : World), w.heap.size ≤ D → Ix c W → W.heap[D]? = some (.deferred (some [])) → c.wpIn Fence.wide n Try.prog Q { a with defers := { target := .collected D, args := #[] } :: a.defers } W) :
    (Code.rangeFunc g #[p0, p1] assign body).wpIn Fence.wide n Try.prog Q a w := by
  refine wpIn_rangeFunc_ownH (F := Fence.wide) rfl hn hg trivial (enters_of Try.func97 (by kernel_rfl) rfl) (corners_stops (n - 1) Bs b c ps h3 h12 w hBs0 hBs hc)
    (fun h k => Keeps2.trans h k) (fun W l o o' hl h _ _ => Keeps2.put (Nat.lt_of_lt_of_le hc.lt hl) (Nat.lt_of_lt_of_le hBs0 hl) W o') (Below.refl _ _) (fun _ => rfl)
    (fun pre W => w.heap.size ≤ W.heap.size ∧ I (pre.map Fin.val) W) (fun c _ W => Ix c W)
    (Lasts.own (fun s => (lasts_size _ _).and (hI (s.map Fin.val)))) (fun c => Lasts.own (fun _ => hIx c)) ⟨Nat.le_refl _, h0⟩
    (fun x a' W => ∃ Bx, w.heap.size ≤ Bx ∧ CornerAt W Bx ps x.1 ∧ a' = a₁ x.1 Bx)
    ?_ ?assign ?body ?done ?stop
  case done =>
    rintro D xs W hD hxs ⟨_, hi⟩ hK
    rw [hxs] at hi
    exact hdone D W hD hi hK
  case stop =>
    rintro D c pre W hD _ hi hK
    exact hstop D c W hD hi hK
  case assign =>
    rintro l pre x W K ⟨hs, hi⟩ hK
    have h := hassign l x.1 W K (hK _ _ ((KeepsOthers.alloc _ _).from _) (Keeps2.of_below ((Below.refl _ _).alloc (Nat.le_refl _) _) (Nat.lt_of_lt_of_le hc.lt hs) (Nat.lt_of_lt_of_le hBs0 hs)) ⟨Nat.le_trans hs (by simp), (hI _).grow hi ((Below.refl _ _).alloc (Nat.le_refl _) _)⟩ ⟨W.heap.size, hs, CornerAt.new W ps x.1, rfl⟩)
    have e : (#[p0, p1].zip (encC ps x.1)).foldl (fun t (p, v) => t.setIfInBounds p v) a.tmps = (a.tmps.setIfInBounds p0 (.int .i64 (x.1 : Int))).setIfInBounds p1 (.agg (cornerCells ps x.1)) := by
      simp [encC, cornerCells]
    rw [e]; exact h
  case body =>
    rintro l pre x a' W hl hr ⟨hs, hi⟩ ⟨Bx, hBx, hcx, rfl⟩ hlen
    refine wpIn_mono (hbody l x.1 Bx (pre.map Fin.val) W x.2 hBx hs hcx hi (by simpa using hlen) (fun y hy => by
      obtain ⟨z, _, rfl⟩ := List.mem_map.1 hy; exact z.2)) ?_
    rintro e a3 W3 hp
    cases e with
    | normal => exact ⟨hp.1, hp.2.1, Nat.le_trans hs hp.2.1.1, by rw [List.map_append]; exact hp.2.2⟩
    | ret => exact hp
    | exit id => exact hp
    | goto t => exact hp.elim
    | panic ch => exact hp.elim
    | outgrown => exact hp.elim
  · intro x a' s W W' row hs hg hr
    obtain ⟨Bx, h1, h2, h3⟩ := hs
    have k := fun (a : Addr) (v : Value) (h : W.cell? a = some v) => lasts_cell w.heap.size a v W W' row h hg hr
    exact ⟨Bx, h1, ⟨lasts_row w.heap.size Bx 76 [.int .i64 (pv ps x.1).1, .int .i64 (pv ps x.1).2, .int .i64 (ptAt ps x.1).1, .int .i64 (ptAt ps x.1).2, .int .i64 (nx ps x.1).1, .int .i64 (nx ps x.1).2] W W' row h2.row hg hr, Nat.lt_of_lt_of_le h2.lt hg.size, k _ _ h2.c0, k _ _ h2.c1, k _ _ h2.c2, k _ _ h2.c3, k _ _ h2.c4, k _ _ h2.c5⟩, h3⟩
end Go.Proofs.Ytlehddifcjklgaa
