import Derived.Test.YtlehddifcjklgaaAa
import Derived.Maps.OwnIn
import Derived.Maps.OwnSet
import Derived.Maps.AppendAt
import Derived.RangeFuncNested
import Derived.RangeFuncBound
import Derived.RangeFuncCalls
import Derived.RangeFuncLeaves
import Derived.Shelf.Abstract
import Derived.Shelf.RegionOpen
import Derived.WalkKit
import Derived.OwnWalkIn
import Derived.TacticsInMore
import Derived.LoopNIn
import Derived.LoopIn
import Derived.WalkMore
import Derived.Sort.QuietThIn
import Derived.Sort.QuietTacIn
import Derived.Sort.BigQuietIn
import Derived.WalkSpells
import Derived.WalkLawsBesides
import Derived.BigQuiet
import Derived.Deep.QuietTactic
import Derived.Lib.Hide
import Derived.Deep.RegionHeld3
import Derived.StillTailTactics
import Derived.Deep.LoopGhost
import Derived.Lib.IndexAny
namespace Go.Proofs.Ytlehddifcjklgaa
open Go.RowKit Go.Shelf
attribute [local go_sem] Oper.semAt_some
def momP (p : Pt) : Int := p.2 * (p.1 + (p.1 + p.2))
def balF (ps : List Pt) : Int × Int := frac (ps.map momP).sum (2 * (ps.map Prod.snd).sum)
theorem own_keep_row {Wt w1 : World} {n₀ k g t : Nat} {v : Value} {xs vs : List Value} (hr : Wt.ownsRow n₀ 3 1 v k xs) (hg : Wt.grownBy w1 v.ownBlock) (h : Row Wt g t vs) (ht : t ≠ 3) : Row w1 g t vs :=
  (hg.block g h.lt (fun e => by
    obtain ⟨c, fz, hk2⟩ := ownsRow_kind hr g e.symm
    rw [show Wt.heap[g]? = _ from h] at hk2; cases hk2; exact ht rfl)).trans h
theorem own_ints {W : World} {n₀ k : Nat} {zs : List Int} {v : Value} (h : W.ownsRow n₀ 3 1 v k (zs.map encI)) (hz : zs ≠ []) : ∃ g cap, v = .slice (some ⟨g, 0, none⟩) zs.length cap ∧ g < W.heap.size ∧ IntsAt W g 0 zs := by
  have hl : k = zs.length := by have := h.1; rw [List.length_map] at this; omega
  subst hl
  rcases h.2 with ⟨_, hn⟩ | ⟨g, cap, cur, rfl, _, hgb, _⟩
  · exact absurd (List.eq_nil_of_length_eq_zero hn) hz
  · have hlt := (Array.getElem?_eq_some_iff.1 hgb).1
    refine ⟨g, cap, rfl, hlt, .inr hlt, fun i hi => ?_⟩
    have := h.cells (g := g) rfl i (encI zs[i]) (by simp [hi])
    rw [Nat.zero_add]
    by_cases h0 : i = 0
    · subst h0; simpa [Addr.add, encI] using this
    · simpa [Addr.add, encI, h0] using this
theorem sumBd_of {m : Int} (hm : 0 ≤ m) {zs : List Int} (hz : ∀ z ∈ zs, Bd m z) (hl : zs.length ≤ 12) (hM : m ≤ 1000000) : SumBd 4000000000000000000 zs := fun j => by
  have h1 := sum_bd hm (zs.take j) (fun z h => hz z (List.mem_of_mem_take h))
  have h2 := bd_len hm h1 (n := 12) (by rw [List.length_take]; omega)
  exact h2.mono (by simp; omega)
theorem sum_pos : ∀ (zs : List Int), (∀ z ∈ zs, 0 < z) → zs ≠ [] → 0 < zs.sum
  | [], _, h => absurd rfl h
  | [z], h, _ => by simpa using h z List.mem_cons_self
  | z :: y :: zs, h, _ => by
    have h1 := h z List.mem_cons_self
    have h2 := sum_pos (y :: zs) (fun x hx => h x (List.mem_cons_of_mem _ hx)) (by simp)
    rw [List.sum_cons]; omega
set_option maxRecDepth 100000 in
set_option maxHeartbeats 2000000 in
theorem balance_any (ps : List Pt) (b o c : Nat) (w : World) (hp : PtsAt w b o ps) (h1 : 1 ≤ ps.length) (h12 : ps.length ≤ 12) (hbd : ∀ i (h : i < ps.length), Bd 1000 ps[i].1 ∧ 1 ≤ ps[i].2 ∧ ps[i].2 ≤ 100) :
    Calls Try.prog 94 #[.slice (some ⟨b, o, none⟩) ps.length c] w fun e w' => e = .returned (.agg #[.int .i64 (balF ps).1, .int .i64 (balF ps).2]) ∧ Below w.heap.size w w' := by
  obtain ⟨i0, hi, hz0, hz1, hz2⟩ := info_parts info3
  have HP := Lib.hid hp
  have HBD := Lib.hid hbd
  clear hp hbd
  obtain ⟨fn, fd, hfr⟩ : ∃ fn fd, balF ps = (fn, fd) := ⟨_, _, rfl⟩
  rw [hfr]
  have HFF := Lib.hid hfr
  clear hfr
  dsimp only
  go_enter Try.func94, Try.ntmps94
  go_wp2_with fail
  obtain ⟨W0, hW0⟩ : ∃ W0, W0 = w.alloc (.cells #[.int .i64 0, .int .i64 0] 88) := ⟨_, rfl⟩
  have B0 := Lib.hid (show Below w.heap.size w W0 by rw [hW0]; exact (Below.refl _ _).alloc (Nat.le_refl _) _)
  have l0 : w.heap.size < W0.heap.size := by rw [hW0]; simp
  have r0 := Lib.hid (show Row W0 w.heap.size 88 [.int .i64 0, .int .i64 0] by rw [hW0]; exact Row.new _ _ _)
  rw [← hW0]
  clear hW0
  have HP0 := Lib.hid (HP.out.grow B0.out)
  go_loopw [3, 4, 10] (fun v3 v4 i wr => ∃ k : Nat, k ≤ ps.length ∧ i = .int .i64 (k : Int) ∧ Hid (wr.ownsRow W0.heap.size 3 1 v3 k ((ps.take k).map (fun p => encI p.2))) ∧ Hid (wr.ownsRow W0.heap.size 3 1 v4 k ((ps.take k).map (fun p => encI (momP p)))) ∧ Hid (Apart v4 v3) ∧ Hid (Below W0.heap.size W0 wr)) (fun _ _ i _ => ps.length - (intOf i).toNat)
  case atStart => exact ⟨0, by omega, rfl, Lib.hid (World.ownsRow_nil _ _ _ _), Lib.hid (World.ownsRow_nil _ _ _ _), Lib.hid (.inl rfl), Lib.hid (Below.refl _ _)⟩
  case round =>
    obtain ⟨k, hk, rfl, HO3, HO4, HAP, HB⟩ := hrel
    by_cases hlt : k < ps.length
    · have hd : decide ((k : Int) < (ps.length : Int)) = true := decide_eq_true (by omega)
      have hx := below_at HB.out HP0.out.lt (HP0.out.x k hlt)
      have hy := below_at HB.out HP0.out.lt (HP0.out.y k hlt)
      have hb := HBD.out k hlt
      have hs1 : (ps.take (k + 1)).map (fun p => encI p.2) = (ps.take k).map (fun p => encI p.2) ++ [encI ps[k].2] := by
        rw [List.take_succ_eq_append_getElem hlt, List.map_append]; rfl
      have hs2 : (ps.take (k + 1)).map (fun p => encI (momP p)) = (ps.take k).map (fun p => encI (momP p)) ++ [encI (momP ps[k])] := by
        rw [List.take_succ_eq_append_getElem hlt, List.map_append]; rfl
      have HS1 := Lib.hid hs1
      have HS2 := Lib.hid hs2
      clear hs1 hs2
      generalize ps[k] = p at *
      obtain ⟨p1, p2⟩ := p
      dsimp only at hx hy hb HS1 HS2
      have hp2 : Bd 100 p2 := by unfold Bd; omega
      have e1 := i64_bd (hb.1.add hp2) (by omega)
      have e2 := i64_bd (hb.1.add (hb.1.add hp2)) (by omega)
      have k1 := Lib.hid (hb.1.mono (C := 100000000) (by omega))
      have k2 := Lib.hid (hp2.mono (C := 100000000) (by omega))
      obtain ⟨M, hM⟩ : ∃ M, p2 * (p1 + (p1 + p2)) = M := ⟨_, rfl⟩
      have hM2 : momP (p1, p2) = M := hM
      rw [hM2] at HS2
      have e3 := (i64_bd (hp2.mul (hb.1.add (hb.1.add hp2))) (by omega)).trans hM
      have HM := Lib.hid hM
      clear hM hM2 hb hp2
      generalize (ps.take k).map (fun p => encI p.2) = L3 at *
      generalize (ps.take k).map (fun p => encI (momP p)) = L4 at *
      have c0 : (wr.alloc (.cells #[.int .i64 p1, .int .i64 p2] 58)).cell? ⟨wr.heap.size, 0, none⟩ = some (.int .i64 p1) := by simp [cell_al]
      have c1 : (wr.alloc (.cells #[.int .i64 p1, .int .i64 p2] 58)).cell? ⟨wr.heap.size, 1, none⟩ = some (.int .i64 p2) := by simp [cell_al]
      have HR := Lib.hid (Row.new wr 58 [.int .i64 p1, .int .i64 p2])
      have BA := Lib.hid (Below.al HB.out (Nat.le_refl _) (.cells #[.int .i64 p1, .int .i64 p2] 58))
      have O3a := Lib.hid (HO3.out.alloc (.cells #[.int .i64 p1, .int .i64 p2] 58))
      have O4a := Lib.hid (HO4.out.alloc (.cells #[.int .i64 p1, .int .i64 p2] 58))
      go_wp2_with (at_builtin; refine wpList_append_own_at _ rfl _ _ 32 rfl W0.heap.size 3 i0 (.int .i64 0) 1 8 Try.underlying32 hi hz0 hz1 hz2 rfl (by decide) _ _ _ rfl (O3a.out.alloc _) _ 1 1 [encI p2] rfl rfl (cell_one_at _ _ _ _ (by simp)) (by simp [Value.oneCell', encI]) (by unfold maxLen; omega) (by omega) (Nat.le_trans BA.out.size (by simp)) ?_; intro v' w2 hown' hgrow hnil hat; have HO3' := Lib.hid hown'; have HX := Lib.hid (own_append_other (O4a.out.alloc _) HAP.out hgrow hat); have r58 := Lib.hid (own_keep_row (O3a.out.alloc _) hgrow (HR.out.below ((Below.refl _ _).alloc (Nat.le_refl _) (.cells #[.int .i64 p2] 3)) (by simp)) (by decide)); have BA2 := Lib.hid ((Below.al BA.out (Nat.le_refl _) (.cells #[.int .i64 p2] 3)).trans (own_below' (O3a.out.alloc _) (Nat.le_trans BA.out.size (by simp)) hgrow)); clear hown' hgrow hnil hat)
      have HO4w := Lib.hid HX.out.1
      have hn0 : W0.heap.size ≤ w2.heap.size := BA2.out.size
      have l6 : wr.heap.size < w2.heap.size := r58.out.lt
      clear c0 c1 hx hy O3a O4a BA HR HO3 HO4 HB
      refine wp_region_slots2 (by kernel_rfl) (by kernel_rfl) [20, 21, 22, 23, 24, 25, 26, 27, 28, 29, 4] (balJ w2 W0.heap.size k L4 u4 wr.heap.size p1 p2 M) ⟨[u20, u21, u22, u23, u24, u25, u26, u27, u28, u29, u4], by simp only [putAll, Act.put, List.setIfInBounds_toArray, List.set_cons_succ, List.set_cons_zero], balJ_start _ _ _ _ _ _ _ _ _ _ _ _ _ _ _ _ _ _ _ _ _ (Below.refl _ _).drew rfl⟩ ?_ ?_
      · rintro i o' bs vs W K ho ⟨b0, b1, b2, b3, b4, b5, b6, b7, b8, b9, b10, x0, x1, x2, x3, x4, x5, x6, x7, x8, x9, x10, rfl, rfl, J⟩ _ hb hw hK
        have HK := Lib.hid hK
        have HJ := Lib.hid J
        have HW := Lib.hid hw
        clear hK J hw
        match i with
        | 0 =>
          obtain rfl : _ = o' := Option.some.inj ho
          have e0 : b0 = false := by simpa using hb
          have e9 : b9 = false := by
            cases h9 : b9 with
            | false => rfl
            | true => have := HJ.out.up0 h9; rw [e0] at this; cases this
          have hbw := HJ.out.below e9
          have e10 : b10 = false := by
            cases h10 : b10 with
            | false => rfl
            | true => have := HJ.out.o109 h10; rw [e9] at this; cases this
          obtain rfl := HJ.out.tt e10
          refine wpOp_of_list rfl ?_
          simp only [putAll, Act.put, List.setIfInBounds_toArray, List.set_cons_succ, List.set_cons_zero]
          clear hb ho
          go_wp2_with fail
          have fin := HK.out [x10, x1, x2, x3, x4, x5, x6, x7, x8, x9, x10] W (balJ_mk { HJ.out with s0 := fun _ => rfl, o90 := fun _ => rfl })
          simp only [putAll, Act.put, List.setIfInBounds_toArray, List.set_cons_succ, List.set_cons_zero] at fin
          exact fin
        | 1 =>
          obtain rfl : _ = o' := Option.some.inj ho
          have e0 : b1 = false := by simpa using hb
          have e9 : b9 = false := by
            cases h9 : b9 with
            | false => rfl
            | true => have := HJ.out.up1 h9; rw [e0] at this; cases this
          have hbw := HJ.out.below e9
          refine wpOp_of_list rfl ?_
          simp only [putAll, Act.put, List.setIfInBounds_toArray, List.set_cons_succ, List.set_cons_zero]
          clear hb ho
          go_wp2_with fail
          have fin := HK.out [x0, .int .i64 p2, x2, x3, x4, x5, x6, x7, x8, x9, x10] W (balJ_mk { HJ.out with s1 := fun _ => rfl, o71 := fun _ => rfl })
          simp only [putAll, Act.put, List.setIfInBounds_toArray, List.set_cons_succ, List.set_cons_zero] at fin
          exact fin
        | 2 =>
          obtain rfl : _ = o' := Option.some.inj ho
          have e0 : b2 = false := by simpa using hb
          have e9 : b9 = false := by
            cases h9 : b9 with
            | false => rfl
            | true => have := HJ.out.up2 h9; rw [e0] at this; cases this
          have hbw := HJ.out.below e9
          refine wpOp_of_list rfl ?_
          simp only [putAll, Act.put, List.setIfInBounds_toArray, List.set_cons_succ, List.set_cons_zero]
          clear hb ho
          go_wp2_with fail
          have fin := HK.out [x0, x1, .pointer (some ⟨wr.heap.size, 0, none⟩), x3, x4, x5, x6, x7, x8, x9, x10] W (balJ_mk { HJ.out with s2 := fun _ => rfl, o32 := fun _ => rfl })
          simp only [putAll, Act.put, List.setIfInBounds_toArray, List.set_cons_succ, List.set_cons_zero] at fin
          exact fin
        | 3 =>
          obtain rfl : _ = o' := Option.some.inj ho
          have e0 : b3 = false := by simpa using hb
          have e9 : b9 = false := by
            cases h9 : b9 with
            | false => rfl
            | true => have := HJ.out.up3 h9; rw [e0] at this; cases this
          have hbw := HJ.out.below e9
          obtain rfl := HJ.out.s2 (HW.out ⟨2, .data⟩ (by simp) rfl)
          obtain ⟨q0, q1, _, _⟩ := two_cells (r58.out.below hbw l6)
          refine wpOp_of_list rfl ?_
          simp only [putAll, Act.put, List.setIfInBounds_toArray, List.set_cons_succ, List.set_cons_zero]
          clear hb ho
          go_wp2_with fail
          have fin := HK.out [x0, x1, .pointer (some ⟨wr.heap.size, 0, none⟩), .int .i64 p1, x4, x5, x6, x7, x8, x9, x10] W (balJ_mk { HJ.out with s3 := fun _ => rfl, o32 := fun _ => HW.out ⟨2, .data⟩ (by simp) rfl, o63 := fun _ => rfl })
          simp only [putAll, Act.put, List.setIfInBounds_toArray, List.set_cons_succ, List.set_cons_zero] at fin
          exact fin
        | 4 =>
          obtain rfl : _ = o' := Option.some.inj ho
          have e0 : b4 = false := by simpa using hb
          have e9 : b9 = false := by
            cases h9 : b9 with
            | false => rfl
            | true => have := HJ.out.up4 h9; rw [e0] at this; cases this
          have hbw := HJ.out.below e9
          obtain ⟨q0, q1, _, _⟩ := two_cells (r58.out.below hbw l6)
          refine wpOp_of_list rfl ?_
          simp only [putAll, Act.put, List.setIfInBounds_toArray, List.set_cons_succ, List.set_cons_zero]
          clear hb ho
          go_wp2_with fail
          have fin := HK.out [x0, x1, x2, x3, .agg #[.int .i64 p1, .int .i64 p2], x5, x6, x7, x8, x9, x10] W (balJ_mk { HJ.out with s4 := fun _ => rfl, o54 := fun _ => rfl })
          simp only [putAll, Act.put, List.setIfInBounds_toArray, List.set_cons_succ, List.set_cons_zero] at fin
          exact fin
        | 5 =>
          obtain rfl : _ = o' := Option.some.inj ho
          have e0 : b5 = false := by simpa using hb
          have e9 : b9 = false := by
            cases h9 : b9 with
            | false => rfl
            | true => have := HJ.out.up5 h9; rw [e0] at this; cases this
          have hbw := HJ.out.below e9
          have e8 : b8 = false := by
            cases h8 : b8 with
            | false => rfl
            | true => have := HJ.out.o65 (HJ.out.o76 (HJ.out.o87 h8)); rw [e0] at this; cases this
          obtain rfl := HJ.out.s4 (HW.out ⟨4, .data⟩ (by simp) rfl)
          refine wpOp_of_list rfl ?_
          simp only [putAll, Act.put, List.setIfInBounds_toArray, List.set_cons_succ, List.set_cons_zero]
          clear hb ho
          go_wp2_with fail
          refine (right_any p1 p2 _ k1.out k2.out).mono ?_
          rintro e W' ⟨rfl, hb'⟩
          have HB' := Lib.hid (Below.andThen hbw hb' (Nat.le_refl _))
          clear hb' hbw
          go_wp2_with fail
          have fin := HK.out [x0, x1, x2, x3, .agg #[.int .i64 p1, .int .i64 p2], .int .i64 (p1 + p2), x6, x7, x8, x9, x10] W' (balJ_mk { HJ.out with below := fun _ => HB'.out, s5 := fun _ => rfl, s8 := fun h => (by rw [e8] at h; cases h), s9 := fun h => (by rw [e9] at h; cases h), o54 := fun _ => HW.out ⟨4, .data⟩ (by simp) rfl, o65 := fun _ => rfl })
          simp only [putAll, Act.put, List.setIfInBounds_toArray, List.set_cons_succ, List.set_cons_zero] at fin
          exact fin
        | 6 =>
          obtain rfl : _ = o' := Option.some.inj ho
          have e0 : b6 = false := by simpa using hb
          have e9 : b9 = false := by
            cases h9 : b9 with
            | false => rfl
            | true => have := HJ.out.up6 h9; rw [e0] at this; cases this
          have hbw := HJ.out.below e9
          obtain rfl := HJ.out.s3 (HW.out ⟨3, .data⟩ (by simp) rfl)
          obtain rfl := HJ.out.s5 (HW.out ⟨5, .data⟩ (by simp) rfl)
          refine wpOp_of_list rfl ?_
          simp only [putAll, Act.put, List.setIfInBounds_toArray, List.set_cons_succ, List.set_cons_zero]
          clear hb ho
          go_wp2_with fail
          have fin := HK.out [x0, x1, x2, .int .i64 p1, x4, .int .i64 (p1 + p2), .int .i64 (p1 + (p1 + p2)), x7, x8, x9, x10] W (balJ_mk { HJ.out with s6 := fun _ => rfl, o63 := fun _ => HW.out ⟨3, .data⟩ (by simp) rfl, o65 := fun _ => HW.out ⟨5, .data⟩ (by simp) rfl, o76 := fun _ => rfl })
          simp only [putAll, Act.put, List.setIfInBounds_toArray, List.set_cons_succ, List.set_cons_zero] at fin
          exact fin
        | 7 =>
          obtain rfl : _ = o' := Option.some.inj ho
          have e0 : b7 = false := by simpa using hb
          have e9 : b9 = false := by
            cases h9 : b9 with
            | false => rfl
            | true => have := HJ.out.up7 h9; rw [e0] at this; cases this
          have hbw := HJ.out.below e9
          obtain rfl := HJ.out.s1 (HW.out ⟨1, .data⟩ (by simp) rfl)
          obtain rfl := HJ.out.s6 (HW.out ⟨6, .data⟩ (by simp) rfl)
          refine wpOp_of_list rfl ?_
          simp only [putAll, Act.put, List.setIfInBounds_toArray, List.set_cons_succ, List.set_cons_zero]
          clear hb ho
          go_wp2_with fail
          have fin := HK.out [x0, .int .i64 p2, x2, x3, x4, x5, .int .i64 (p1 + (p1 + p2)), .int .i64 M, x8, x9, x10] W (balJ_mk { HJ.out with s7 := fun _ => rfl, o71 := fun _ => HW.out ⟨1, .data⟩ (by simp) rfl, o76 := fun _ => HW.out ⟨6, .data⟩ (by simp) rfl, o87 := fun _ => rfl })
          simp only [putAll, Act.put, List.setIfInBounds_toArray, List.set_cons_succ, List.set_cons_zero] at fin
          exact fin
        | 8 =>
          obtain rfl : _ = o' := Option.some.inj ho
          have e0 : b8 = false := by simpa using hb
          have e9 : b9 = false := by
            cases h9 : b9 with
            | false => rfl
            | true => have := HJ.out.up8 h9; rw [e0] at this; cases this
          have hbw := HJ.out.below e9
          obtain rfl := HJ.out.s7 (HW.out ⟨7, .data⟩ (by simp) rfl)
          have e7 : b7 = true := HW.out ⟨7, .data⟩ (by simp) rfl
          refine wpOp_of_list rfl ?_
          simp only [putAll, Act.put, List.setIfInBounds_toArray, List.set_cons_succ, List.set_cons_zero]
          clear hb ho
          go_wp2_with fail
          have fin := HK.out [x0, x1, x2, x3, x4, x5, x6, .int .i64 M, .slice (some ⟨W.heap.size, 0, none⟩) 1 1, x9, x10] (W.alloc (.cells #[.int .i64 M] 3)) (balJ_mk { HJ.out with below := fun _ => Below.al hbw (Nat.le_refl _) _, s8 := fun _ => ⟨_, rfl, fun _ => by simp [cell_al]⟩, s9 := fun h => (by rw [e9] at h; cases h), o87 := fun _ => e7, o98 := fun _ => rfl })
          simp only [putAll, Act.put, List.setIfInBounds_toArray, List.set_cons_succ, List.set_cons_zero] at fin
          exact fin
        | 9 =>
          obtain rfl : _ = o' := Option.some.inj ho
          have e9 : b9 = false := by simpa using hb
          have hbw := HJ.out.below e9
          have e8 : b8 = true := HW.out ⟨8, .data⟩ (by simp) rfl
          obtain rfl := HJ.out.s0 (HW.out ⟨0, .data⟩ (by simp) rfl)
          obtain ⟨gt, rfl, hgc⟩ := HJ.out.s8 e8
          have hgc' := hgc e9
          have AW := own_grow HO4w.out hbw
          have hnW := Nat.le_trans hn0 hbw.size
          refine wpOp_of_list rfl ?_
          simp only [putAll, Act.put, List.setIfInBounds_toArray, List.set_cons_succ, List.set_cons_zero]
          refine wpList_append_own_at _ rfl _ _ 32 rfl W0.heap.size 3 i0 (.int .i64 0) 1 8 Try.underlying32 hi hz0 hz1 hz2 rfl (by decide) _ _ _ rfl AW ⟨gt, 0, none⟩ 1 1 [encI M] rfl rfl (cell_one_of hgc') (by simp [Value.oneCell', encI]) (by unfold maxLen; omega) (by omega) hnW ?_
          intro v' wz hown' hgrow hnil hat
          have hall := Lib.hid (And.intro ((hbw.mono hn0).trans (own_below' AW hnW hgrow)) (And.intro hown' (fun (u : Value) (zs : List Value) (j : Nat) (hu : w2.ownsRow W0.heap.size 3 1 u j zs) (hap : Apart u x0) => own_append_other (own_grow hu hbw) hap hgrow hat)))
          clear hown' hgrow hnil hat AW hbw hgc hgc' hb ho
          go_wp2_with fail
          have fin := HK.out [x0, x1, x2, x3, x4, x5, x6, x7, .slice (some ⟨gt, 0, none⟩) 1 1, v', x10] wz (balJ_mk { HJ.out with below := fun h => (by cases h), s8 := fun _ => ⟨gt, rfl, fun h => (by cases h)⟩, s9 := fun _ => hall.out, s10 := fun h => (by have := HJ.out.o109 h; rw [e9] at this; cases this), o109 := fun _ => rfl, o98 := fun _ => e8, o90 := fun _ => HW.out ⟨0, .data⟩ (by simp) rfl })
          simp only [putAll, Act.put, List.setIfInBounds_toArray, List.set_cons_succ, List.set_cons_zero] at fin
          exact fin
        | 10 =>
          obtain rfl : _ = o' := Option.some.inj ho
          have e9 : b9 = true := HW.out ⟨9, .data⟩ (by simp) rfl
          refine wpOp_of_list rfl ?_
          simp only [putAll, Act.put, List.setIfInBounds_toArray, List.set_cons_succ, List.set_cons_zero]
          clear hb ho
          go_wp2_with fail
          have fin := HK.out [x0, x1, x2, x3, x4, x5, x6, x7, x8, x9, x9] W (balJ_mk { HJ.out with s10 := fun _ => rfl, o109 := fun _ => e9, tt := fun h => (by cases h) })
          simp only [putAll, Act.put, List.setIfInBounds_toArray, List.set_cons_succ, List.set_cons_zero] at fin
          exact fin
        | i + 11 => simp at hb
      · rintro vs W ⟨b0, b1, b2, b3, b4, b5, b6, b7, b8, b9, b10, x0, x1, x2, x3, x4, x5, x6, x7, x8, x9, x10, hbs, rfl, J⟩
        simp only [List.length_cons, List.length_nil, List.replicate_succ, List.replicate_zero, List.cons.injEq, and_true] at hbs
        obtain ⟨rfl, rfl, rfl, rfl, rfl, rfl, rfl, rfl, rfl, rfl, rfl⟩ := hbs
        obtain ⟨f1, f2, f3⟩ := J.s9 rfl
        obtain rfl := J.s10 rfl
        obtain ⟨f4, f5⟩ := f3 _ _ _ HO3'.out HX.out.2.symm
        have F1 := Lib.hid (BA2.out.trans f1)
        have F2 := Lib.hid f2
        have F4 := Lib.hid f4
        have F5 := Lib.hid f5.symm
        clear f1 f2 f3 f4 f5 J
        simp only [putAll, Act.put, List.setIfInBounds_toArray, List.set_cons_succ, List.set_cons_zero]
        go_wp2_with fail
        refine ⟨⟨k + 1, by omega, rfl, Lib.hid (by rw [HS1.out]; exact F4.out), Lib.hid (by rw [HS2.out]; exact F2.out), F5, F1⟩, ?_⟩
        simp [intOf]; omega
    · have hd : decide ((k : Int) < (ps.length : Int)) = false := decide_eq_false (by omega)
      obtain rfl : k = ps.length := by omega
      have e3 : (ps.take ps.length).map (fun p => encI p.2) = (ps.map Prod.snd).map encI := by rw [List.take_length, List.map_map]; rfl
      have e4 : (ps.take ps.length).map (fun p => encI (momP p)) = (ps.map momP).map encI := by rw [List.take_length, List.map_map]; rfl
      have o3 := HO3.out
      have o4 := HO4.out
      rw [e3] at o3
      rw [e4] at o4
      have b3 : ∀ z ∈ ps.map Prod.snd, Bd 100 z := fun z hz => by
        obtain ⟨p, hp, rfl⟩ := List.mem_map.1 hz
        obtain ⟨i, hi, rfl⟩ := List.getElem_of_mem hp
        have := HBD.out i hi; unfold Bd; omega
      have b4 : ∀ z ∈ ps.map momP, Bd 300000 z := fun z hz => by
        obtain ⟨p, hp, rfl⟩ := List.mem_map.1 hz
        obtain ⟨i, hi, rfl⟩ := List.getElem_of_mem hp
        have h := HBD.out i hi
        have h2 : Bd 100 ps[i].2 := by unfold Bd; omega
        exact (h2.mul (h.1.add (h.1.add h2))).mono (by omega)
      have hpos : 0 < (ps.map Prod.snd).sum := sum_pos _ (fun z hz => by
        obtain ⟨p, hp, rfl⟩ := List.mem_map.1 hz
        obtain ⟨i, hi, rfl⟩ := List.getElem_of_mem hp
        have := HBD.out i hi; omega) (by rw [Ne, List.map_eq_nil_iff]; intro h; rw [h] at h1; simp at h1)
      obtain ⟨g3, c3, hv3, l3, n3⟩ := own_ints o3 (by rw [Ne, List.map_eq_nil_iff]; intro h; rw [h] at h1; simp at h1)
      obtain ⟨g4, c4, hv4, l4, n4⟩ := own_ints o4 (by rw [Ne, List.map_eq_nil_iff]; intro h; rw [h] at h1; simp at h1)
      have S3 := sum_any _ g3 0 c3 wr n3 (by simp; omega) (sumBd_of (by omega) b3 (by simp; omega) (by omega)) (by rw [List.length_map]; omega)
      have S4 := sum_any _ g4 0 c4 wr n4 (by simp; omega) (sumBd_of (by omega) b4 (by simp; omega) (by omega)) (by rw [List.length_map]; omega)
      have q3 := bd_len (by omega) (sum_bd (by omega) _ b3) (n := 12) (by simp; omega)
      have q4 := bd_len (by omega) (sum_bd (by omega) _ b4) (n := 12) (by simp; omega)
      have fin : balF ps = frac (ps.map momP).sum (2 * (ps.map Prod.snd).sum) := rfl
      rw [List.length_map] at hv3 hv4 S3 S4
      subst hv3
      subst hv4
      generalize (ps.map momP).sum = MS at *
      generalize (ps.map Prod.snd).sum = WS at *
      have e5 : IntKind.i64.wrap (2 * WS) = 2 * WS := i64_bd (B := 100000) (by unfold Bd at *; omega) (by omega)
      have hFR := fun W => fractionOf_any MS (2 * WS) W (q4.mono (by simp)) (by unfold Bd at *; omega) (by omega)
      have hff := HFF.out
      rw [fin] at hff
      rw [hff] at hFR
      dsimp only at hFR
      have HFR := Lib.hid hFR
      have HS3 := Lib.hid S3
      have HS4 := Lib.hid S4
      have rr := r0.out.below HB.out l0
      have lr := rr.lt
      clear hFR hff fin S3 S4 q3 q4 n3 n4 o3 o4 e3 e4 b3 b4 hpos l3 l4
      go_wp2_with fail
      refine HS4.out.mono ?_
      rintro e w5 ⟨rfl, rfl⟩
      go_wp2_with fail
      refine HS3.out.mono ?_
      rintro e w6 ⟨rfl, rfl⟩
      go_wp2_with fail
      refine (HFR.out _).mono ?_
      rintro e w7 ⟨rfl, hb7⟩
      obtain ⟨z0, z1, z2, z3⟩ := two_cells (rr.below hb7 lr)
      have T7 := Lib.hid (Below.andThen B0.out (Below.andThen HB.out hb7 (Nat.le_refl _)) (Nat.le_refl _))
      clear hb7 rr
      go_wp2_with fail
      obtain ⟨q0, q1⟩ := two_set (x := .int .i64 fn) (y := .int .i64 fd) z0 z1
      refine bodyPost_ret (v := .agg #[.int .i64 fn, .int .i64 fd]) (by simp [results, Try.results94, go_sem, q0, q1]) rfl ⟨rfl, ?_⟩
      exact (T7.out.setCell (p := ⟨w.heap.size, 0, none⟩) (Nat.le_refl _) _).setCell (p := ⟨w.heap.size, 1, none⟩) (Nat.le_refl _) _
end Go.Proofs.Ytlehddifcjklgaa
