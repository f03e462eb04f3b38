import Derived.Test.YtlehddifcjklgaaM
import Derived.Maps.OwnIn
import Derived.Maps.OwnSet
import Derived.Maps.AppendAt
import Derived.RangeFuncNested
import Derived.RangeFuncBound
import Derived.RangeFuncCalls
import Derived.RangeFuncLeaves
import Derived.Shelf.Abstract
import Derived.Shelf.RegionOpen
import Derived.WalkKit
import Derived.OwnWalkIn
import Derived.TacticsInMore
import Derived.LoopNIn
import Derived.LoopIn
import Derived.Sort.QuietThIn
import Derived.Sort.QuietTacIn
import Derived.Sort.BigQuietIn
import Derived.WalkSpells
import Derived.WalkLawsBesides
import Derived.BigQuiet
import Derived.Deep.QuietTactic
import Derived.Lib.Hide
import Derived.Deep.RegionHeld3
import Derived.StillTailTactics
import Derived.Deep.LoopGhost
import Derived.Lib.IndexAny
namespace Go.Proofs.Ytlehddifcjklgaa
open Go.RowKit Go.Shelf
attribute [local go_sem] Oper.semAt_some
theorem acc_append' {Wt w1 : World} {n₀ Bk : Nat} {zs : List Int} {x : Int} {vk v' : Value} (ha : Acc Wt n₀ Bk zs vk) (hn : n₀ ≤ Wt.heap.size)
    (hown' : w1.ownsRow n₀ 3 1 v' (zs.length + 1) (zs.map encI ++ [encI x])) (hg : Wt.grownBy w1 vk.ownBlock) :
    w1.cell? ⟨Bk, 0, none⟩ = some vk ∧ w1.frozen? ⟨Bk, 0, none⟩ = false ∧
    Acc (w1.setCell ⟨Bk, 0, none⟩ v') n₀ Bk (zs ++ [x]) v' ∧ KeepsOthers Wt (w1.setCell ⟨Bk, 0, none⟩ v') ∧ Below n₀ Wt (w1.setCell ⟨Bk, 0, none⟩ v') ∧
    (∀ g cs t, Wt.heap[g]? = some (.cells cs t (0, 0)) → g ≠ Bk → t ≠ 3 → (w1.setCell ⟨Bk, 0, none⟩ v').heap[g]? = some (.cells cs t (0, 0))) := by
  obtain ⟨hB, hk, hr⟩ := ha
  have hkeep : ∀ (g : Nat) (cs : Array Value) (t : TypeId), Wt.heap[g]? = some (Obj.cells cs t (0, 0)) → t ≠ 3 → w1.heap[g]? = some (Obj.cells cs t (0, 0)) := fun g cs t hgt ht =>
    (hg.block g (Array.getElem?_eq_some_iff.1 hgt).1 (fun e => by
      obtain ⟨c, fz, hk2⟩ := ownsRow_kind hr g e.symm
      rw [hgt] at hk2; cases hk2; exact ht rfl)).trans hgt
  have h1 : Boxed w1 Bk 32 vk := hkeep Bk _ 32 hk (by decide)
  refine ⟨h1.cell, h1.frozen, ⟨hB, h1.set v', by simpa using ownsRow_setCell_other hown' (fun e => (h1.not_row (by decide) hown') e.symm) v'⟩, ?_, ?_, fun g cs t hgt hne ht => ?_⟩
  · exact (KeepsOthers.of_grownBy hg (fun r o e ho => by
      obtain ⟨c, fz, hk2⟩ := ownsRow_kind hr r e
      rw [ho] at hk2; cases hk2; rfl)).trans (KeepsOthers.setCell _ _ _)
  · exact ((Below.refl n₀ Wt).grown hg hn (fun r e => by
      rcases hr.2 with ⟨rfl, _⟩ | ⟨g', cap, cur, rfl, h, _⟩
      · simp [Value.ownBlock] at e
      · simp [Value.ownBlock] at e; omega)).setCell (p := ⟨Bk, 0, none⟩) hB _
  · exact ((grownBy_setCell' w1 Bk v').block g (Array.getElem?_eq_some_iff.1 (hkeep g cs t hgt ht)).1 (fun e => hne (by cases e; rfl))).trans (hkeep g cs t hgt ht)
/-- what Area's round has done -/
structure AreaJ (W0 : World) (n₀ Bk Bx : Nat) (z : List Int) (vA : Value) (pa pb : Pt) (cr : Int) (b0 b1 b2 b3 b4 b5 b6 b7 b8 : Bool) (x0 x1 x2 x3 x4 x5 x6 x7 : Value) (W : World) : Prop where
  below : b7 = false → Below W0.heap.size W0 W
  s0 : b0 = true → x0 = vA
  s1 : b1 = true → x1 = .pointer (some ⟨Bx, 2, none⟩)
  s2 : b2 = true → x2 = .agg #[.int .i64 pa.1, .int .i64 pa.2]
  s3 : b3 = true → x3 = .pointer (some ⟨Bx, 4, none⟩)
  s4 : b4 = true → x4 = .agg #[.int .i64 pb.1, .int .i64 pb.2]
  s5 : b5 = true → x5 = .int .i64 cr
  s6 : b6 = true → ∃ g, x6 = .slice (some ⟨g, 0, none⟩) 1 1 ∧ (b7 = false → W.cell? ⟨g, 0, none⟩ = some (.int .i64 cr))
  s7 : b7 = true → b8 = false → W.cell? ⟨Bk, 0, none⟩ = some vA ∧ W.frozen? ⟨Bk, 0, none⟩ = false ∧ (∃ g k, x7 = .slice (some ⟨g, 0, none⟩) (z.length + 1) k) ∧
    Acc (W.setCell ⟨Bk, 0, none⟩ x7) n₀ Bk (z ++ [cr]) x7 ∧ KeepsOthers W0 (W.setCell ⟨Bk, 0, none⟩ x7) ∧ Below n₀ W0 (W.setCell ⟨Bk, 0, none⟩ x7) ∧
    (∀ g cs t, W0.heap[g]? = some (.cells cs t (0, 0)) → g ≠ Bk → t ≠ 3 → (W.setCell ⟨Bk, 0, none⟩ x7).heap[g]? = some (.cells cs t (0, 0)))
  s8 : b8 = true → Acc W n₀ Bk (z ++ [cr]) x7 ∧ KeepsOthers W0 W ∧ Below n₀ W0 W ∧
    (∀ g cs t, W0.heap[g]? = some (.cells cs t (0, 0)) → g ≠ Bk → t ≠ 3 → W.heap[g]? = some (.cells cs t (0, 0)))
  o : b8 = true → b7 = true
  o7 : b7 = true → b6 = true
  o70 : b7 = true → b0 = true
  o6 : b6 = true → b5 = true
  o52 : b5 = true → b2 = true
  o54 : b5 = true → b4 = true
  o2 : b2 = true → b1 = true
  o4 : b4 = true → b3 = true
def areaJ (W0 : World) (n₀ Bk Bx : Nat) (z : List Int) (vA : Value) (pa pb : Pt) (cr : Int) (bs : List Bool) (vs : List Value) (W : World) : Prop :=
  ∃ b0 b1 b2 b3 b4 b5 b6 b7 b8 x0 x1 x2 x3 x4 x5 x6 x7, bs = [b0, b1, b2, b3, b4, b5, b6, b7, b8] ∧ vs = [x0, x1, x2, x3, x4, x5, x6, x7] ∧ AreaJ W0 n₀ Bk Bx z vA pa pb cr b0 b1 b2 b3 b4 b5 b6 b7 b8 x0 x1 x2 x3 x4 x5 x6 x7 W
theorem areaJ_start (W0 : World) (n₀ Bk Bx : Nat) (z : List Int) (vA : Value) (pa pb : Pt) (cr : Int) (x0 x1 x2 x3 x4 x5 x6 x7 : Value) (W : World) (h : Below W0.heap.size W0 W) :
    areaJ W0 n₀ Bk Bx z vA pa pb cr (List.replicate 9 false) [x0, x1, x2, x3, x4, x5, x6, x7] W :=
  ⟨false, false, false, false, false, false, false, false, false, x0, x1, x2, x3, x4, x5, x6, x7, rfl, rfl, { below := fun _ => h, s0 := (fun h => by cases h), s1 := (fun h => by cases h), s2 := (fun h => by cases h), s3 := (fun h => by cases h), s4 := (fun h => by cases h), s5 := (fun h => by cases h), s6 := (fun h => by cases h), s7 := (fun h => by cases h), s8 := (fun h => by cases h), o := (fun h => by cases h), o7 := (fun h => by cases h), o70 := (fun h => by cases h), o6 := (fun h => by cases h), o52 := (fun h => by cases h), o54 := (fun h => by cases h), o2 := (fun h => by cases h), o4 := (fun h => by cases h) }⟩
theorem areaJ_mk {W0 : World} {n₀ Bk Bx : Nat} {z : List Int} {vA : Value} {pa pb : Pt} {cr : Int} {b0 b1 b2 b3 b4 b5 b6 b7 b8 : Bool} {x0 x1 x2 x3 x4 x5 x6 x7 : Value} {W : World}
    (h : AreaJ W0 n₀ Bk Bx z vA pa pb cr b0 b1 b2 b3 b4 b5 b6 b7 b8 x0 x1 x2 x3 x4 x5 x6 x7 W) : areaJ W0 n₀ Bk Bx z vA pa pb cr [b0, b1, b2, b3, b4, b5, b6, b7, b8] [x0, x1, x2, x3, x4, x5, x6, x7] W :=
  ⟨_, _, _, _, _, _, _, _, _, _, _, _, _, _, _, _, _, rfl, rfl, h⟩
section
variable {W0 : World} {n₀ Bk Bx : Nat} {z : List Int} {vA : Value} {pa pb : Pt} {cr : Int} {b0 b1 b2 b3 b4 b5 b6 b7 b8 : Bool} {x0 x1 x2 x3 x4 x5 x6 x7 : Value} {W : World}
theorem AreaJ.up0 (J : AreaJ W0 n₀ Bk Bx z vA pa pb cr b0 b1 b2 b3 b4 b5 b6 b7 b8 x0 x1 x2 x3 x4 x5 x6 x7 W) (h : b7 = true) : b0 = true := J.o70 h
theorem AreaJ.up6 (J : AreaJ W0 n₀ Bk Bx z vA pa pb cr b0 b1 b2 b3 b4 b5 b6 b7 b8 x0 x1 x2 x3 x4 x5 x6 x7 W) (h : b7 = true) : b6 = true := J.o7 h
theorem AreaJ.up5 (J : AreaJ W0 n₀ Bk Bx z vA pa pb cr b0 b1 b2 b3 b4 b5 b6 b7 b8 x0 x1 x2 x3 x4 x5 x6 x7 W) (h : b7 = true) : b5 = true := J.o6 (J.o7 h)
theorem AreaJ.up4 (J : AreaJ W0 n₀ Bk Bx z vA pa pb cr b0 b1 b2 b3 b4 b5 b6 b7 b8 x0 x1 x2 x3 x4 x5 x6 x7 W) (h : b7 = true) : b4 = true := J.o54 (J.up5 h)
theorem AreaJ.up2 (J : AreaJ W0 n₀ Bk Bx z vA pa pb cr b0 b1 b2 b3 b4 b5 b6 b7 b8 x0 x1 x2 x3 x4 x5 x6 x7 W) (h : b7 = true) : b2 = true := J.o52 (J.up5 h)
theorem AreaJ.up1 (J : AreaJ W0 n₀ Bk Bx z vA pa pb cr b0 b1 b2 b3 b4 b5 b6 b7 b8 x0 x1 x2 x3 x4 x5 x6 x7 W) (h : b7 = true) : b1 = true := J.o2 (J.up2 h)
theorem AreaJ.up3 (J : AreaJ W0 n₀ Bk Bx z vA pa pb cr b0 b1 b2 b3 b4 b5 b6 b7 b8 x0 x1 x2 x3 x4 x5 x6 x7 W) (h : b7 = true) : b3 = true := J.o4 (J.up4 h)
end
theorem cell_one_of {W : World} {g : Nat} {u : Value} (h : W.cell? ⟨g, 0, none⟩ = some u) : ∀ j x, [u][j]? = some x → W.cell? ((⟨g, 0, none⟩ : Addr).add j) = some x := by
  intro j x hj
  match j, hj with
  | 0, hj => simp at hj; subst hj; simpa [Addr.add] using h
  | j + 1, hj => simp at hj
set_option maxRecDepth 100000 in
set_option maxHeartbeats 1000000 in
theorem area_in (ps : List Pt) (b c : Nat) (w : World) (hp : PtsAt w b 0 ps) (hck : chk ps = true) :
    CallsIn Fence.wide 3 Try.prog 21 #[.slice (some ⟨b, 0, none⟩) ps.length c] w fun e w' => e = .returned (.tuple #[.int .i64 (area ps), .int .i64 0]) ∧ Below w.heap.size w w' := by
  have ha : areP ps = true := by unfold chk at hck; exact (Bool.and_eq_true _ _ ▸ hck : _ ∧ _).1
  obtain ⟨h3, h12⟩ := areP_len ha
  obtain ⟨i0, hi, hz0, hz1, hz2⟩ := info_parts info3
  have HA := Lib.hid ha
  have HC := Lib.hid (check_any ps b c w hp (by omega))
  obtain ⟨A, hA⟩ : ∃ A, area ps = A := ⟨_, rfl⟩
  rw [hA]
  have HAr := Lib.hid hA
  clear hA
  refine callsIn_of_wp_marks Try.func21 rfl trivial ?_ rfl
  simp only [Try.ntmps21, List.size_toArray, List.length_cons, List.length_nil, Nat.reduceAdd, Nat.reduceSub, Array.replicate_succ, Array.replicate_zero, List.push_toArray, List.append_toArray, List.nil_append, List.cons_append]
  gi_wp2_with fail
  refine ⟨trivial, ?_⟩
  have HC' := HC.out
  rw [hck] at HC'
  refine (callsIn_wide.2 HC').mono ?_
  rintro e w1 ⟨rfl, hb1⟩
  have T1 := Lib.hid hb1
  clear hb1 HC' HC
  gi_wp2_with fail
  refine ⟨trivial, ?_⟩
  obtain ⟨W0, hW0⟩ : ∃ W0, W0 = w1.alloc (.cells #[.slice none 0 0] 32) := ⟨_, rfl⟩
  have B0 : Below w.heap.size w W0 := by rw [hW0]; exact Below.al T1.out (Nat.le_refl _) _
  have s0 : W0.heap.size = w1.heap.size + 1 := by rw [hW0]; simp
  have r1 : Boxed W0 w1.heap.size 32 (.slice none 0 0) := by rw [hW0]; exact Boxed.new _ _ _
  rw [← hW0]
  clear hW0
  refine (callsIn_wide.2 (corners_any _ _ _ _)).mono ?_
  rintro e w2 ⟨rfl, rfl⟩
  obtain ⟨V, hV⟩ : ∃ V, V = W0.alloc (.cells #[.slice (some ⟨b, 0, none⟩) ps.length c] 22) := ⟨_, rfl⟩
  have BV : Below w.heap.size w V := by rw [hV]; exact Below.al B0 (Nat.le_refl _) _
  have sV : V.heap.size = w1.heap.size + 2 := by rw [hV]; simp; omega
  have zb : Boxed V W0.heap.size 22 (.slice (some ⟨b, 0, none⟩) ps.length c) := by rw [hV]; exact Boxed.new _ _ _
  have sw := T1.out.size
  have q1 : Acc V w.heap.size w1.heap.size [] (.slice none 0 0) := ⟨by omega, by rw [hV]; exact r1.alloc _, World.ownsRow_nil _ _ _ _⟩
  have zp := hp.grow BV
  rw [← hV]
  clear hV r1 B0
  have BVh := Lib.hid BV
  have ZP := Lib.hid zp
  have ZB := Lib.hid zb
  have hbl := hp.lt
  have hq := Lib.hid q1
  have FA := Lib.hid (And.intro s0 (And.intro sV sw))
  clear BV hp zp zb q1 s0 sV sw
  gi_wp2_with fail
  refine range_corners 3 W0.heap.size b c (by omega) ps h3 h12 rfl (by have := FA.out; omega) ZB.out.cell ZP.out
    (fun pre W => ((∃ v, Acc W w.heap.size w1.heap.size (pre.map (crsAt ps)) v) ∧ W.heap[W0.heap.size]? = some (.cells #[.slice (some ⟨b, 0, none⟩) ps.length c] 22 (0, 0))) ∧ Below w.heap.size w W)
    (fun _ _ => False)
    (fun _ => (Lasts.and (fun W W' row hi hg hr => let ⟨v, h⟩ := hi; ⟨v, h.grown hg (fun r e => (hr r e).2)⟩) (lasts_heap _ _ _ _)).and (lasts_below _ _ _ (by have := FA.out; omega) (Nat.le_refl _)))
    (fun _ => fun _ _ _ h _ _ => h)
    ⟨⟨⟨_, hq.out⟩, ZB.out⟩, BVh.out⟩
    (fun x Bx => { tmps := #[.slice (some ⟨b, 0, none⟩) ps.length c, undef, .int .i64 0, .int .i64 0, .int .i64 0, .pointer (some ⟨w1.heap.size, 0, none⟩), undef, .pointer (some ⟨Bx, 0, none⟩), .slice (some ⟨b, 0, none⟩) ps.length c, .int .i64 0, .int .i64 0, .bool false, undef, .slice (some ⟨b, 0, none⟩) ps.length c, .func (.func 97) #[] #[.pointer (some ⟨W0.heap.size, 0, none⟩)], .int .i64 (x : Int), .agg (cornerCells ps x), undef, undef, undef, undef, undef, undef, undef, undef, undef, undef], defers := [] }) ?assign ?body ?done ?stop
  case assign =>
    intro l x W K hK
    simp only [cornerCells, List.setIfInBounds_toArray, List.set_cons_succ, List.set_cons_zero] at hK ⊢
    gi_wp2
    exact hK
  case body =>
    rintro l x Bx pre Wr hx hBx hW hcx ⟨⟨⟨vA, aA⟩, hbs⟩, hB⟩ hlen hpre
    have n1 := ptAt_bd HA.out hx
    have n2 := nx_bd HA.out hx
    have k1 := Lib.hid (n1.1.mono (C := 100000000) (by omega))
    have k2 := Lib.hid (n1.2.mono (C := 100000000) (by omega))
    have k3 := Lib.hid (n2.1.mono (C := 100000000) (by omega))
    have k4 := Lib.hid (n2.2.mono (C := 100000000) (by omega))
    have CX := Lib.hid (show crsAt ps x = crs ((ptAt ps x).1, (ptAt ps x).2) ((nx ps x).1, (nx ps x).2) from rfl)
    have c2 := Lib.hid hcx.c2
    have c3 := Lib.hid hcx.c3
    have c4 := Lib.hid hcx.c4
    have c5 := Lib.hid hcx.c5
    have lx := hcx.lt
    clear n1 n2 hcx
    generalize ptAt ps x = pa at *
    generalize nx ps x = pb at *
    obtain ⟨cr, hcr⟩ : ∃ cr, crs (pa.1, pa.2) (pb.1, pb.2) = cr := ⟨_, rfl⟩
    have CR := Lib.hid hcr
    obtain ⟨z, hz⟩ : ∃ z, pre.map (crsAt ps) = z := ⟨_, rfl⟩
    have HZ := Lib.hid hz
    have hl0 : z.length ≤ 12 := by rw [← hz, List.length_map]; omega
    rw [hz] at aA
    have AA := Lib.hid aA
    have cB := Lib.hid aA.2.1.cell
    have lk : w1.heap.size < Wr.heap.size := by have := FA.out; omega
    have hn0 : w.heap.size ≤ Wr.heap.size := hB.size
    have HB := Lib.hid hB
    have HBS := Lib.hid hbs
    have hbl2 : b < Wr.heap.size := by have := FA.out; omega
    clear hcr hz aA hB hbs hpre
    gi_wp2_with fail
    refine wpIn_region_slots (by kernel_rfl) (by kernel_rfl) [17, 18, 19, 20, 21, 22, 23, 24] (areaJ Wr w.heap.size w1.heap.size Bx z vA pa pb cr) ⟨[undef, undef, undef, undef, undef, undef, undef, undef], by simp only [putAll, Act.put, List.setIfInBounds_toArray, List.set_cons_succ, List.set_cons_zero], areaJ_start _ _ _ _ _ _ _ _ _ _ _ _ _ _ _ _ _ _ (Below.refl _ _).drew⟩ ?_ ?_
    · rintro i o bs vs W K ho ⟨b0, b1, b2, b3, b4, b5, b6, b7, b8, x0, x1, x2, x3, x4, x5, x6, x7, rfl, rfl, J⟩ _ hb hw hK
      have HK := Lib.hid hK
      have HJ := Lib.hid J
      have HW := Lib.hid hw
      clear hK J hw
      match i with
      | 0 =>
        obtain rfl : _ = o := Option.some.inj ho
        have e0 : b0 = false := by simpa using hb
        have e7 : b7 = false := by
          cases h7 : b7 with
          | false => rfl
          | true => have := HJ.out.up0 h7; rw [e0] at this; cases this
        have hbw := HJ.out.below e7
        refine wpOpIn_of_list rfl ?_
        simp only [putAll, Act.put, List.setIfInBounds_toArray, List.set_cons_succ, List.set_cons_zero]
        have q0 := below_at hbw lk cB.out
        clear hb ho
        gi_wp2_with fail
        have fin := HK.out [vA, x1, x2, x3, x4, x5, x6, x7] W (areaJ_mk { HJ.out with s0 := fun _ => rfl, o70 := fun _ => rfl })
        simp only [putAll, Act.put, List.setIfInBounds_toArray, List.set_cons_succ, List.set_cons_zero] at fin
        exact fin
      | 1 =>
        obtain rfl : _ = o := Option.some.inj ho
        have e0 : b1 = false := by simpa using hb
        have e7 : b7 = false := by
          cases h7 : b7 with
          | false => rfl
          | true => have := HJ.out.up1 h7; rw [e0] at this; cases this
        have hbw := HJ.out.below e7
        refine wpOpIn_of_list rfl ?_
        simp only [putAll, Act.put, List.setIfInBounds_toArray, List.set_cons_succ, List.set_cons_zero]
        clear hb ho
        gi_wp2_with fail
        have fin := HK.out [x0, .pointer (some ⟨Bx, 2, none⟩), x2, x3, x4, x5, x6, x7] W (areaJ_mk { HJ.out with s1 := fun _ => rfl, o2 := fun _ => rfl })
        simp only [putAll, Act.put, List.setIfInBounds_toArray, List.set_cons_succ, List.set_cons_zero] at fin
        exact fin
      | 2 =>
        obtain rfl : _ = o := Option.some.inj ho
        have e0 : b2 = false := by simpa using hb
        have e7 : b7 = false := by
          cases h7 : b7 with
          | false => rfl
          | true => have := HJ.out.up2 h7; rw [e0] at this; cases this
        have hbw := HJ.out.below e7
        obtain rfl := HJ.out.s1 (HW.out ⟨1, .data⟩ (by simp) rfl)
        refine wpOpIn_of_list rfl ?_
        simp only [putAll, Act.put, List.setIfInBounds_toArray, List.set_cons_succ, List.set_cons_zero]
        have q2 := below_at hbw lx c2.out
        have q3 := below_at hbw lx c3.out
        clear hb ho
        gi_wp2_with fail
        have fin := HK.out [x0, .pointer (some ⟨Bx, 2, none⟩), .agg #[.int .i64 pa.1, .int .i64 pa.2], x3, x4, x5, x6, x7] W (areaJ_mk { HJ.out with s2 := fun _ => rfl, o2 := fun _ => HW.out ⟨1, .data⟩ (by simp) rfl, o52 := fun _ => rfl })
        simp only [putAll, Act.put, List.setIfInBounds_toArray, List.set_cons_succ, List.set_cons_zero] at fin
        exact fin
      | 3 =>
        obtain rfl : _ = o := Option.some.inj ho
        have e0 : b3 = false := by simpa using hb
        have e7 : b7 = false := by
          cases h7 : b7 with
          | false => rfl
          | true => have := HJ.out.up3 h7; rw [e0] at this; cases this
        have hbw := HJ.out.below e7
        refine wpOpIn_of_list rfl ?_
        simp only [putAll, Act.put, List.setIfInBounds_toArray, List.set_cons_succ, List.set_cons_zero]
        clear hb ho
        gi_wp2_with fail
        have fin := HK.out [x0, x1, x2, .pointer (some ⟨Bx, 4, none⟩), x4, x5, x6, x7] W (areaJ_mk { HJ.out with s3 := fun _ => rfl, o4 := fun _ => rfl })
        simp only [putAll, Act.put, List.setIfInBounds_toArray, List.set_cons_succ, List.set_cons_zero] at fin
        exact fin
      | 4 =>
        obtain rfl : _ = o := Option.some.inj ho
        have e0 : b4 = false := by simpa using hb
        have e7 : b7 = false := by
          cases h7 : b7 with
          | false => rfl
          | true => have := HJ.out.up4 h7; rw [e0] at this; cases this
        have hbw := HJ.out.below e7
        obtain rfl := HJ.out.s3 (HW.out ⟨3, .data⟩ (by simp) rfl)
        refine wpOpIn_of_list rfl ?_
        simp only [putAll, Act.put, List.setIfInBounds_toArray, List.set_cons_succ, List.set_cons_zero]
        have q4 := below_at hbw lx c4.out
        have q5 := below_at hbw lx c5.out
        clear hb ho
        gi_wp2_with fail
        have fin := HK.out [x0, x1, x2, .pointer (some ⟨Bx, 4, none⟩), .agg #[.int .i64 pb.1, .int .i64 pb.2], x5, x6, x7] W (areaJ_mk { HJ.out with s4 := fun _ => rfl, o4 := fun _ => HW.out ⟨3, .data⟩ (by simp) rfl, o54 := fun _ => rfl })
        simp only [putAll, Act.put, List.setIfInBounds_toArray, List.set_cons_succ, List.set_cons_zero] at fin
        exact fin
      | 5 =>
        obtain rfl : _ = o := Option.some.inj ho
        have e0 : b5 = false := by simpa using hb
        have e7 : b7 = false := by
          cases h7 : b7 with
          | false => rfl
          | true => have := HJ.out.up5 h7; rw [e0] at this; cases this
        have e6 : b6 = false := by
          cases h6 : b6 with
          | false => rfl
          | true => have := HJ.out.o6 h6; rw [e0] at this; cases this
        have hbw := HJ.out.below e7
        obtain rfl := HJ.out.s2 (HW.out ⟨2, .data⟩ (by simp) rfl)
        obtain rfl := HJ.out.s4 (HW.out ⟨4, .data⟩ (by simp) rfl)
        refine wpOpIn_of_list rfl ?_
        simp only [putAll, Act.put, List.setIfInBounds_toArray, List.set_cons_succ, List.set_cons_zero]
        clear hb ho
        gi_wp2_with fail
        refine ⟨trivial, ?_⟩
        refine (CallsIn.inRound l (callsIn_wide.2 (cross_any pa.1 pa.2 pb.1 pb.2 _ k1.out k2.out k3.out k4.out))).mono ?_
        rintro e W' ⟨rfl, hb'⟩
        have HB' := Lib.hid (Below.andThen hbw hb' (Nat.le_refl _))
        rw [CR.out]
        clear hb' hbw
        gi_wp2_with fail
        have fin := HK.out [x0, x1, .agg #[.int .i64 pa.1, .int .i64 pa.2], x3, .agg #[.int .i64 pb.1, .int .i64 pb.2], .int .i64 cr, x6, x7] W' (areaJ_mk { HJ.out with below := fun _ => HB'.out, s5 := fun _ => rfl, s6 := fun h => (by rw [e6] at h; cases h), s7 := fun h => (by rw [e7] at h; cases h), s8 := fun h => (by rw [HJ.out.o h] at e7; cases e7), o52 := fun _ => HW.out ⟨2, .data⟩ (by simp) rfl, o54 := fun _ => HW.out ⟨4, .data⟩ (by simp) rfl, o6 := fun _ => rfl })
        simp only [putAll, Act.put, List.setIfInBounds_toArray, List.set_cons_succ, List.set_cons_zero] at fin
        exact fin
      | 6 =>
        obtain rfl : _ = o := Option.some.inj ho
        have e0 : b6 = false := by simpa using hb
        have e7 : b7 = false := by
          cases h7 : b7 with
          | false => rfl
          | true => have := HJ.out.up6 h7; rw [e0] at this; cases this
        have hbw := HJ.out.below e7
        obtain rfl := HJ.out.s5 (HW.out ⟨5, .data⟩ (by simp) rfl)
        have e5 : b5 = true := HW.out ⟨5, .data⟩ (by simp) rfl
        refine wpOpIn_of_list rfl ?_
        simp only [putAll, Act.put, List.setIfInBounds_toArray, List.set_cons_succ, List.set_cons_zero]
        clear hb ho
        gi_wp2_with fail
        have fin := HK.out [x0, x1, x2, x3, x4, .int .i64 cr, .slice (some ⟨W.heap.size, 0, none⟩) 1 1, x7] (W.alloc (.cells #[.int .i64 cr] 3)) (areaJ_mk { HJ.out with below := fun _ => Below.al hbw (Nat.le_refl _) _, s6 := fun _ => ⟨_, rfl, fun _ => by simp [cell_al]⟩, s7 := fun h => (by rw [e7] at h; cases h), s8 := fun h => (by rw [HJ.out.o h] at e7; cases e7), o6 := fun _ => e5, o7 := fun _ => rfl })
        simp only [putAll, Act.put, List.setIfInBounds_toArray, List.set_cons_succ, List.set_cons_zero] at fin
        exact fin
      | 7 =>
        obtain rfl : _ = o := Option.some.inj ho
        have e0 : b7 = false := by simpa using hb
        have e8 : b8 = false := by
          cases h8 : b8 with
          | false => rfl
          | true => have := HJ.out.o h8; rw [e0] at this; cases this
        have hbw := HJ.out.below e0
        have e6 : b6 = true := HW.out ⟨6, .data⟩ (by simp) rfl
        obtain rfl := HJ.out.s0 (HW.out ⟨0, .data⟩ (by simp) rfl)
        obtain ⟨gt, rfl, hgc⟩ := HJ.out.s6 e6
        have hgc' := hgc e0
        have AW := AA.out.below hbw
        have hnW := Nat.le_trans hn0 hbw.size
        refine wpOpIn_of_list rfl ?_
        simp only [putAll, Act.put, List.setIfInBounds_toArray, List.set_cons_succ, List.set_cons_zero]
        refine wpListIn_append_own_at _ rfl _ _ 32 rfl w.heap.size 3 i0 (.int .i64 0) 1 8 Try.underlying32 hi hz0 hz1 hz2 rfl (by decide) _ _ _ rfl AW.2.2 ⟨gt, 0, none⟩ 1 1 [encI cr] rfl rfl (cell_one_of hgc') (by simp [Value.oneCell', encI]) (by unfold maxLen; omega) (by omega) hnW ?_
        intro v' wz hown' hgrow hat
        obtain ⟨g', cap', rfl⟩ := ownsRow_succ hown'
        obtain ⟨f1, f2, f3, f4, f5, f6⟩ := acc_append' (x := cr) AW hnW hown' hgrow
        have KO : KeepsOthers Wr W := KeepsOthers.of_grownBy (row := none) ⟨hbw.os, hbw.tape, hbw.output, hbw.size, fun k hk _ => hbw.block k hk⟩ (fun r o e => by cases e)
        have hend : ∀ (g : Nat) (cs : Array Value) (t : TypeId), Wr.heap[g]? = some (Obj.cells cs t (0, 0)) → g ≠ w1.heap.size → t ≠ 3 → (wz.setCell ⟨w1.heap.size, 0, none⟩ (.slice (some ⟨g', 0, none⟩) (z.length + 1) cap')).heap[g]? = some (Obj.cells cs t (0, 0)) := fun g cs t h1 h2 h3 =>
          f6 g cs t ((hbw.block g (Array.getElem?_eq_some_iff.1 h1).1).trans h1) h2 h3
        have ALL := Lib.hid (And.intro f1 (And.intro f2 (And.intro f3 (And.intro (KO.trans f4) (And.intro ((hbw.mono hn0).trans f5) hend)))))
        clear f1 f2 f3 f4 f5 f6 hown' hgrow hat hend KO hb ho hgc hgc' AW hbw
        gi_wp2_with fail
        have fin := HK.out [x0, x1, x2, x3, x4, x5, .slice (some ⟨gt, 0, none⟩) 1 1, .slice (some ⟨g', 0, none⟩) (z.length + 1) cap'] wz (areaJ_mk { HJ.out with below := fun h => (by cases h), s6 := fun _ => ⟨_, rfl, fun h => (by cases h)⟩, s7 := fun _ _ => ⟨ALL.out.1, ALL.out.2.1, ⟨_, _, rfl⟩, ALL.out.2.2.1, ALL.out.2.2.2.1, ALL.out.2.2.2.2.1, ALL.out.2.2.2.2.2⟩, s8 := fun h => (by rw [e8] at h; cases h), o := fun _ => rfl, o7 := fun _ => e6, o70 := fun _ => HW.out ⟨0, .data⟩ (by simp) rfl })
        simp only [putAll, Act.put, List.setIfInBounds_toArray, List.set_cons_succ, List.set_cons_zero] at fin
        exact fin
      | 8 =>
        obtain rfl : _ = o := Option.some.inj ho
        have e8 : b8 = false := by simpa using hb
        have e7 : b7 = true := HW.out ⟨7, .data⟩ (by simp) rfl
        obtain ⟨f1, f2, ⟨g', cap', rfl⟩, f3, f4, f5, f6⟩ := HJ.out.s7 e7 e8
        have ALL := Lib.hid (And.intro f3 (And.intro f4 (And.intro f5 f6)))
        refine wpOpIn_of_list rfl ?_
        simp only [putAll, Act.put, List.setIfInBounds_toArray, List.set_cons_succ, List.set_cons_zero]
        clear hb ho f3 f4 f5 f6
        gi_wp2_with fail
        have fin := HK.out [x0, x1, x2, x3, x4, x5, x6, .slice (some ⟨g', 0, none⟩) (z.length + 1) cap'] (W.setCell ⟨w1.heap.size, 0, none⟩ (.slice (some ⟨g', 0, none⟩) (z.length + 1) cap')) (areaJ_mk { HJ.out with below := fun h => (by rw [e7] at h; cases h), s6 := fun h => (let ⟨g, h1, _⟩ := HJ.out.s6 h; ⟨g, h1, fun h => (by rw [e7] at h; cases h)⟩), s7 := fun _ h => (by cases h), s8 := fun _ => ALL.out, o := fun _ => e7 })
        simp only [putAll, Act.put, List.setIfInBounds_toArray, List.set_cons_succ, List.set_cons_zero] at fin
        exact fin
      | i + 9 => simp at hb
    · rintro vs W ⟨b0, b1, b2, b3, b4, b5, b6, b7, b8, x0, x1, x2, x3, x4, x5, x6, x7, hbs, rfl, J⟩
      simp only [List.length_cons, List.length_nil, List.replicate_succ, List.replicate_zero, List.cons.injEq, and_true] at hbs
      obtain ⟨rfl, rfl, rfl, rfl, rfl, rfl, rfl, rfl, rfl⟩ := hbs
      obtain ⟨f3, f4, f5, f6⟩ := J.s8 rfl
      have ALL := Lib.hid (And.intro f3 (And.intro f4 (And.intro f5 f6)))
      clear f3 f4 f5 f6 J
      simp only [putAll, Act.put, List.setIfInBounds_toArray, List.set_cons_succ, List.set_cons_zero]
      gi_wp2_with fail
      obtain ⟨f3, f4, f5, f6⟩ := ALL.out
      have hbb := f6 _ _ _ HBS.out (by have := FA.out; omega) (by decide)
      refine ⟨f4.from _, ⟨f5.size, f5.block b hbl, hbb.trans HBS.out.symm⟩, ⟨⟨x7, ?_⟩, hbb⟩, HB.out.trans f5⟩
      rw [List.map_append, HZ.out]
      simpa [CX.out, CR.out] using f3
  case done =>
    rintro D W hD ⟨⟨⟨v, a0⟩, hbs⟩, hB⟩ hK
    have hne : ∀ f : Nat → Int, (upto ps.length).map f ≠ [] := fun f e => by
      have := congrArg List.length e
      rw [List.length_map] at this
      simp only [upto, List.length_range, List.length_nil] at this
      omega
    obtain ⟨g0, k0, rfl, l0, i0'⟩ := a0.ints (hne _)
    have F0 := Lib.hid (sumOf_upto HA.out (crsAt ps) 800 (by omega) (fun x hx => crsAt_bd HA.out hx) k0 i0')
    have efin : ((upto ps.length).map (crsAt ps)).sum = A := HAr.out
    rw [efin] at F0
    have c0 := a0.2.1.cell
    have HB := Lib.hid hB
    have HK := Lib.hid hK
    have HD := Lib.hid hD
    simp only [List.length_map, upto_length] at c0 F0
    clear efin a0 hbs hB hK hD i0' l0 hne
    gi_wp2_with fail
    refine ⟨trivial, ?_⟩
    refine (callsIn_wide.2 (F0.out.call 0)).mono ?_
    rintro e w3 ⟨rfl, rfl⟩
    gi_wp2_with fail
    refine ⟨by simp, .inl ⟨_, _, rfl, run_takeDeferred HK.out, ?_⟩⟩
    have hle : w.heap.size ≤ D := by
      have := HD.out
      have := FA.out
      omega
    exact ⟨.tuple #[.int .i64 A, .int .i64 0], by simp [results, Try.results21, go_sem], rfl, below_put HB.out hle HK.out _⟩
  case stop =>
    rintro D c W hD h _
    exact h.elim
theorem area_any (ps : List Pt) (b c : Nat) (w : World) (hp : PtsAt w b 0 ps) (hck : chk ps = true) :
    Calls Try.prog 21 #[.slice (some ⟨b, 0, none⟩) ps.length c] w fun e w' => e = .returned (.tuple #[.int .i64 (area ps), .int .i64 0]) ∧ Below w.heap.size w w' := callsIn_wide.1 (area_in ps b c w hp hck)
theorem middleOf_any (ps : List Pt) (b c : Nat) (w : World) (hp : PtsAt w b 0 ps) (ha : areP ps = true) (hD0 : 0 < area ps) :
    Calls Try.prog 99 #[.slice (some ⟨b, 0, none⟩) ps.length c] w fun e w' => e = .returned (.agg #[.int .i64 (mid ps).1, .int .i64 (mid ps).2.1, .int .i64 (mid ps).2.2]) ∧ Below w.heap.size w w' := callsIn_wide.1 (middleOf_in ps b c w hp ha hD0)
end Go.Proofs.Ytlehddifcjklgaa
