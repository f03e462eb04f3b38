import Derived.Test.YtlehddifcjklgaaMB
import Derived.Maps.OwnIn
import Derived.Maps.OwnSet
import Derived.Maps.AppendAt
import Derived.RangeFuncNested
import Derived.RangeFuncBound
import Derived.RangeFuncCalls
import Derived.RangeFuncLeaves
import Derived.Shelf.Abstract
import Derived.Shelf.RegionOpen
import Derived.WalkKit
import Derived.OwnWalkIn
import Derived.TacticsInMore
import Derived.LoopNIn
import Derived.LoopIn
import Derived.WalkMore
import Derived.Sort.QuietThIn
import Derived.Sort.QuietTacIn
import Derived.Sort.BigQuietIn
import Derived.WalkSpells
import Derived.WalkLawsBesides
import Derived.BigQuiet
import Derived.Deep.QuietTactic
import Derived.Lib.Hide
import Derived.Deep.RegionHeld3
import Derived.StillTailTactics
import Derived.Deep.LoopGhost
import Derived.Lib.IndexAny
import Derived.ChangeKeysEq
import Derived.Test.YtlehddifcjklgaaMA
import Derived.ProofKit
import Derived.OpenShut
import Derived.Deep.Slices
namespace Go.Proofs.Ytlehddifcjklgaa
open Go.RowKit Go.Shelf
attribute [local go_sem] Oper.semAt_some
theorem own_append_other {Wt w1 : World} {n₀ j : Nat} {v v' u : Value} {ys : List Value} (hu : Wt.ownsRow n₀ 3 1 u j ys) (hap : Apart u v) (hg : Wt.grownBy w1 v.ownBlock) (hat : v'.ownBlock = v.ownBlock ∨ v'.ownBlock = some Wt.heap.size) :
    w1.ownsRow n₀ 3 1 u j ys ∧ Apart u v' := by
  refine ⟨hu.kept hg ?_, ?_⟩
  · rcases hap with h | h | h
    · exact .inl h
    · cases hu2 : u.ownBlock with
      | none => exact .inl rfl
      | some g => right; rw [h]; simp
    · exact .inr h
  · rcases hat with h | h
    · unfold Apart; rw [h]; exact hap
    · cases hu2 : u.ownBlock with
      | none => exact .inl hu2
      | some g =>
        refine .inr (.inr ?_)
        rw [hu2, h]
        have := own_lt hu g hu2
        simp; omega
theorem own_below' {n₀ : Nat} {Wt w2 : World} {k : Nat} {v : Value} {xs : List Value} (h : Wt.ownsRow n₀ 3 1 v k xs) (hn : n₀ ≤ Wt.heap.size) (hg : Wt.grownBy w2 v.ownBlock) : Below n₀ Wt w2 :=
  (Below.refl n₀ Wt).grown hg hn (fun r e => by
    rcases h.2 with ⟨rfl, _⟩ | ⟨g', cap, cur, rfl, h1, _⟩
    · simp [Value.ownBlock] at e
    · simp [Value.ownBlock] at e; omega)
structure BalJ (Wr : World) (n₀ k : Nat) (ys : List Value) (vM : Value) (B6 : Nat) (p1 p2 M : Int) (b0 b1 b2 b3 b4 b5 b6 b7 b8 b9 b10 : Bool) (x0 x1 x2 x3 x4 x5 x6 x7 x8 x9 x10 : Value) (W : World) : Prop where
  below : b9 = false → Below Wr.heap.size Wr W
  s0 : b0 = true → x0 = vM
  s1 : b1 = true → x1 = .int .i64 p2
  s2 : b2 = true → x2 = .pointer (some ⟨B6, 0, none⟩)
  s3 : b3 = true → x3 = .int .i64 p1
  s4 : b4 = true → x4 = .agg #[.int .i64 p1, .int .i64 p2]
  s5 : b5 = true → x5 = .int .i64 (p1 + p2)
  s6 : b6 = true → x6 = .int .i64 (p1 + (p1 + p2))
  s7 : b7 = true → x7 = .int .i64 M
  s8 : b8 = true → ∃ g, x8 = .slice (some ⟨g, 0, none⟩) 1 1 ∧ (b9 = false → W.cell? ⟨g, 0, none⟩ = some (.int .i64 M))
  s9 : b9 = true → Below n₀ Wr W ∧ W.ownsRow n₀ 3 1 x9 (k + 1) (ys ++ [encI M]) ∧ (∀ u zs j, Wr.ownsRow n₀ 3 1 u j zs → Apart u vM → W.ownsRow n₀ 3 1 u j zs ∧ Apart u x9)
  s10 : b10 = true → x10 = x9
  o98 : b9 = true → b8 = true
  o90 : b9 = true → b0 = true
  o87 : b8 = true → b7 = true
  o71 : b7 = true → b1 = true
  o76 : b7 = true → b6 = true
  o63 : b6 = true → b3 = true
  o65 : b6 = true → b5 = true
  o54 : b5 = true → b4 = true
  o32 : b3 = true → b2 = true
  o109 : b10 = true → b9 = true
  tt : b10 = false → x10 = vM
def balJ (Wr : World) (n₀ k : Nat) (ys : List Value) (vM : Value) (B6 : Nat) (p1 p2 M : Int) (bs : List Bool) (vs : List Value) (W : World) : Prop :=
  ∃ b0 b1 b2 b3 b4 b5 b6 b7 b8 b9 b10 x0 x1 x2 x3 x4 x5 x6 x7 x8 x9 x10, bs = [b0, b1, b2, b3, b4, b5, b6, b7, b8, b9, b10] ∧ vs = [x0, x1, x2, x3, x4, x5, x6, x7, x8, x9, x10] ∧ BalJ Wr n₀ k ys vM B6 p1 p2 M b0 b1 b2 b3 b4 b5 b6 b7 b8 b9 b10 x0 x1 x2 x3 x4 x5 x6 x7 x8 x9 x10 W
theorem balJ_start (Wr : World) (n₀ k : Nat) (ys : List Value) (vM : Value) (B6 : Nat) (p1 p2 M : Int) (x0 x1 x2 x3 x4 x5 x6 x7 x8 x9 x10 : Value) (W : World) (h : Below Wr.heap.size Wr W) (hx : x10 = vM) : balJ Wr n₀ k ys vM B6 p1 p2 M (List.replicate 11 false) [x0, x1, x2, x3, x4, x5, x6, x7, x8, x9, x10] W :=
  ⟨false, false, false, false, false, false, false, false, false, false, false, x0, x1, x2, x3, x4, x5, x6, x7, x8, x9, x10, rfl, rfl, { below := fun _ => h, s0 := (fun h => by cases h), s1 := (fun h => by cases h), s2 := (fun h => by cases h), s3 := (fun h => by cases h), s4 := (fun h => by cases h), s5 := (fun h => by cases h), s6 := (fun h => by cases h), s7 := (fun h => by cases h), s8 := (fun h => by cases h), s9 := (fun h => by cases h), s10 := (fun h => by cases h), o98 := (fun h => by cases h), o90 := (fun h => by cases h), o87 := (fun h => by cases h), o71 := (fun h => by cases h), o76 := (fun h => by cases h), o63 := (fun h => by cases h), o65 := (fun h => by cases h), o54 := (fun h => by cases h), o32 := (fun h => by cases h), o109 := (fun h => by cases h), tt := fun _ => hx }⟩
section
variable {Wr : World} {n₀ k : Nat} {ys : List Value} {vM : Value} {B6 : Nat} {p1 p2 M : Int} {b0 b1 b2 b3 b4 b5 b6 b7 b8 b9 b10 : Bool} {x0 x1 x2 x3 x4 x5 x6 x7 x8 x9 x10 : Value} {W : World}
theorem balJ_mk (h : BalJ Wr n₀ k ys vM B6 p1 p2 M b0 b1 b2 b3 b4 b5 b6 b7 b8 b9 b10 x0 x1 x2 x3 x4 x5 x6 x7 x8 x9 x10 W) : balJ Wr n₀ k ys vM B6 p1 p2 M [b0, b1, b2, b3, b4, b5, b6, b7, b8, b9, b10] [x0, x1, x2, x3, x4, x5, x6, x7, x8, x9, x10] W :=
  ⟨_, _, _, _, _, _, _, _, _, _, _, _, _, _, _, _, _, _, _, _, _, _, rfl, rfl, h⟩
theorem BalJ.up8 (J : BalJ Wr n₀ k ys vM B6 p1 p2 M b0 b1 b2 b3 b4 b5 b6 b7 b8 b9 b10 x0 x1 x2 x3 x4 x5 x6 x7 x8 x9 x10 W) (h : b9 = true) : b8 = true := J.o98 h
theorem BalJ.up0 (J : BalJ Wr n₀ k ys vM B6 p1 p2 M b0 b1 b2 b3 b4 b5 b6 b7 b8 b9 b10 x0 x1 x2 x3 x4 x5 x6 x7 x8 x9 x10 W) (h : b9 = true) : b0 = true := J.o90 h
theorem BalJ.up7 (J : BalJ Wr n₀ k ys vM B6 p1 p2 M b0 b1 b2 b3 b4 b5 b6 b7 b8 b9 b10 x0 x1 x2 x3 x4 x5 x6 x7 x8 x9 x10 W) (h : b9 = true) : b7 = true := J.o87 (J.up8 h)
theorem BalJ.up1 (J : BalJ Wr n₀ k ys vM B6 p1 p2 M b0 b1 b2 b3 b4 b5 b6 b7 b8 b9 b10 x0 x1 x2 x3 x4 x5 x6 x7 x8 x9 x10 W) (h : b9 = true) : b1 = true := J.o71 (J.up7 h)
theorem BalJ.up6 (J : BalJ Wr n₀ k ys vM B6 p1 p2 M b0 b1 b2 b3 b4 b5 b6 b7 b8 b9 b10 x0 x1 x2 x3 x4 x5 x6 x7 x8 x9 x10 W) (h : b9 = true) : b6 = true := J.o76 (J.up7 h)
theorem BalJ.up3 (J : BalJ Wr n₀ k ys vM B6 p1 p2 M b0 b1 b2 b3 b4 b5 b6 b7 b8 b9 b10 x0 x1 x2 x3 x4 x5 x6 x7 x8 x9 x10 W) (h : b9 = true) : b3 = true := J.o63 (J.up6 h)
theorem BalJ.up5 (J : BalJ Wr n₀ k ys vM B6 p1 p2 M b0 b1 b2 b3 b4 b5 b6 b7 b8 b9 b10 x0 x1 x2 x3 x4 x5 x6 x7 x8 x9 x10 W) (h : b9 = true) : b5 = true := J.o65 (J.up6 h)
theorem BalJ.up4 (J : BalJ Wr n₀ k ys vM B6 p1 p2 M b0 b1 b2 b3 b4 b5 b6 b7 b8 b9 b10 x0 x1 x2 x3 x4 x5 x6 x7 x8 x9 x10 W) (h : b9 = true) : b4 = true := J.o54 (J.up5 h)
theorem BalJ.up2 (J : BalJ Wr n₀ k ys vM B6 p1 p2 M b0 b1 b2 b3 b4 b5 b6 b7 b8 b9 b10 x0 x1 x2 x3 x4 x5 x6 x7 x8 x9 x10 W) (h : b9 = true) : b2 = true := J.o32 (J.up3 h)
end
end Go.Proofs.Ytlehddifcjklgaa
namespace Go.Proofs.Ytlehddifcjklgaa
open Go.RowKit Go.Shelf
attribute [local go_sem] Oper.semAt_some
def momP (p : Pt) : Int := p.2 * (p.1 + (p.1 + p.2))
def balF (ps : List Pt) : Int × Int := frac (ps.map momP).sum (2 * (ps.map Prod.snd).sum)
theorem own_keep_row {Wt w1 : World} {n₀ k g t : Nat} {v : Value} {xs vs : List Value} (hr : Wt.ownsRow n₀ 3 1 v k xs) (hg : Wt.grownBy w1 v.ownBlock) (h : Row Wt g t vs) (ht : t ≠ 3) : Row w1 g t vs :=
  (hg.block g h.lt (fun e => by
    obtain ⟨c, fz, hk2⟩ := ownsRow_kind hr g e.symm
    rw [show Wt.heap[g]? = _ from h] at hk2; cases hk2; exact ht rfl)).trans h
theorem own_ints {W : World} {n₀ k : Nat} {zs : List Int} {v : Value} (h : W.ownsRow n₀ 3 1 v k (zs.map encI)) (hz : zs ≠ []) : ∃ g cap, v = .slice (some ⟨g, 0, none⟩) zs.length cap ∧ g < W.heap.size ∧ IntsAt W g 0 zs := by
  have hl : k = zs.length := by have := h.1; rw [List.length_map] at this; omega
  subst hl
  rcases h.2 with ⟨_, hn⟩ | ⟨g, cap, cur, rfl, _, hgb, _⟩
  · exact absurd (List.eq_nil_of_length_eq_zero hn) hz
  · have hlt := (Array.getElem?_eq_some_iff.1 hgb).1
    refine ⟨g, cap, rfl, hlt, .inr hlt, fun i hi => ?_⟩
    have := h.cells (g := g) rfl i (encI zs[i]) (by simp [hi])
    rw [Nat.zero_add]
    by_cases h0 : i = 0
    · subst h0; simpa [Addr.add, encI] using this
    · simpa [Addr.add, encI, h0] using this
theorem sumBd_of {m : Int} (hm : 0 ≤ m) {zs : List Int} (hz : ∀ z ∈ zs, Bd m z) (hl : zs.length ≤ 12) (hM : m ≤ 1000000) : SumBd 4000000000000000000 zs := fun j => by
  have h1 := sum_bd hm (zs.take j) (fun z h => hz z (List.mem_of_mem_take h))
  have h2 := bd_len hm h1 (n := 12) (by rw [List.length_take]; omega)
  exact h2.mono (by simp; omega)
theorem sum_pos : ∀ (zs : List Int), (∀ z ∈ zs, 0 < z) → zs ≠ [] → 0 < zs.sum
  | [], _, h => absurd rfl h
  | [z], h, _ => by simpa using h z List.mem_cons_self
  | z :: y :: zs, h, _ => by
    have h1 := h z List.mem_cons_self
    have h2 := sum_pos (y :: zs) (fun x hx => h x (List.mem_cons_of_mem _ hx)) (by simp)
    rw [List.sum_cons]; omega
set_option maxRecDepth 100000 in
set_option maxHeartbeats 2000000 in
theorem balance_any (ps : List Pt) (b o c : Nat) (w : World) (hp : PtsAt w b o ps) (h1 : 1 ≤ ps.length) (h12 : ps.length ≤ 12) (hbd : ∀ i (h : i < ps.length), Bd 1000 ps[i].1 ∧ 1 ≤ ps[i].2 ∧ ps[i].2 ≤ 100) :
    Calls Try.prog 94 #[.slice (some ⟨b, o, none⟩) ps.length c] w fun e w' => e = .returned (.agg #[.int .i64 (balF ps).1, .int .i64 (balF ps).2]) ∧ Below w.heap.size w w' := by
  obtain ⟨i0, hi, hz0, hz1, hz2⟩ := info_parts info3
  have HP := Lib.hid hp
  have HBD := Lib.hid hbd
  clear hp hbd
  obtain ⟨fn, fd, hfr⟩ : ∃ fn fd, balF ps = (fn, fd) := ⟨_, _, rfl⟩
  rw [hfr]
  have HFF := Lib.hid hfr
  clear hfr
  dsimp only
  go_enter Try.func94, Try.ntmps94
  go_wp2_with fail
  obtain ⟨W0, hW0⟩ : ∃ W0, W0 = w.alloc (.cells #[.int .i64 0, .int .i64 0] 88) := ⟨_, rfl⟩
  have B0 := Lib.hid (show Below w.heap.size w W0 by rw [hW0]; exact (Below.refl _ _).alloc (Nat.le_refl _) _)
  have l0 : w.heap.size < W0.heap.size := by rw [hW0]; simp
  have r0 := Lib.hid (show Row W0 w.heap.size 88 [.int .i64 0, .int .i64 0] by rw [hW0]; exact Row.new _ _ _)
  rw [← hW0]
  clear hW0
  have HP0 := Lib.hid (HP.out.grow B0.out)
  go_loopw [3, 4, 10] (fun v3 v4 i wr => ∃ k : Nat, k ≤ ps.length ∧ i = .int .i64 (k : Int) ∧ Hid (wr.ownsRow W0.heap.size 3 1 v3 k ((ps.take k).map (fun p => encI p.2))) ∧ Hid (wr.ownsRow W0.heap.size 3 1 v4 k ((ps.take k).map (fun p => encI (momP p)))) ∧ Hid (Apart v4 v3) ∧ Hid (Below W0.heap.size W0 wr)) (fun _ _ i _ => ps.length - (intOf i).toNat)
  case atStart => exact ⟨0, by omega, rfl, Lib.hid (World.ownsRow_nil _ _ _ _), Lib.hid (World.ownsRow_nil _ _ _ _), Lib.hid (.inl rfl), Lib.hid (Below.refl _ _)⟩
  case round =>
    obtain ⟨k, hk, rfl, HO3, HO4, HAP, HB⟩ := hrel
    by_cases hlt : k < ps.length
    · have hd : decide ((k : Int) < (ps.length : Int)) = true := decide_eq_true (by omega)
      have hx := below_at HB.out HP0.out.lt (HP0.out.x k hlt)
      have hy := below_at HB.out HP0.out.lt (HP0.out.y k hlt)
      have hb := HBD.out k hlt
      have hs1 : (ps.take (k + 1)).map (fun p => encI p.2) = (ps.take k).map (fun p => encI p.2) ++ [encI ps[k].2] := by
        rw [List.take_succ_eq_append_getElem hlt, List.map_append]; rfl
      have hs2 : (ps.take (k + 1)).map (fun p => encI (momP p)) = (ps.take k).map (fun p => encI (momP p)) ++ [encI (momP ps[k])] := by
        rw [List.take_succ_eq_append_getElem hlt, List.map_append]; rfl
      have HS1 := Lib.hid hs1
      have HS2 := Lib.hid hs2
      clear hs1 hs2
      generalize ps[k] = p at *
      obtain ⟨p1, p2⟩ := p
      dsimp only at hx hy hb HS1 HS2
      have hp2 : Bd 100 p2 := by unfold Bd; omega
      have e1 := i64_bd (hb.1.add hp2) (by omega)
      have e2 := i64_bd (hb.1.add (hb.1.add hp2)) (by omega)
      have k1 := Lib.hid (hb.1.mono (C := 100000000) (by omega))
      have k2 := Lib.hid (hp2.mono (C := 100000000) (by omega))
      obtain ⟨M, hM⟩ : ∃ M, p2 * (p1 + (p1 + p2)) = M := ⟨_, rfl⟩
      have hM2 : momP (p1, p2) = M := hM
      rw [hM2] at HS2
      have e3 := (i64_bd (hp2.mul (hb.1.add (hb.1.add hp2))) (by omega)).trans hM
      have HM := Lib.hid hM
      clear hM hM2 hb hp2
      generalize (ps.take k).map (fun p => encI p.2) = L3 at *
      generalize (ps.take k).map (fun p => encI (momP p)) = L4 at *
      have c0 : (wr.alloc (.cells #[.int .i64 p1, .int .i64 p2] 58)).cell? ⟨wr.heap.size, 0, none⟩ = some (.int .i64 p1) := by simp [cell_al]
      have c1 : (wr.alloc (.cells #[.int .i64 p1, .int .i64 p2] 58)).cell? ⟨wr.heap.size, 1, none⟩ = some (.int .i64 p2) := by simp [cell_al]
      have HR := Lib.hid (Row.new wr 58 [.int .i64 p1, .int .i64 p2])
      have BA := Lib.hid (Below.al HB.out (Nat.le_refl _) (.cells #[.int .i64 p1, .int .i64 p2] 58))
      have O3a := Lib.hid (HO3.out.alloc (.cells #[.int .i64 p1, .int .i64 p2] 58))
      have O4a := Lib.hid (HO4.out.alloc (.cells #[.int .i64 p1, .int .i64 p2] 58))
      go_wp2_with (at_builtin; refine wpList_append_own_at _ rfl _ _ 32 rfl W0.heap.size 3 i0 (.int .i64 0) 1 8 Try.underlying32 hi hz0 hz1 hz2 rfl (by decide) _ _ _ rfl (O3a.out.alloc _) _ 1 1 [encI p2] rfl rfl (cell_one_at _ _ _ _ (by simp)) (by simp [Value.oneCell', encI]) (by unfold maxLen; omega) (by omega) (Nat.le_trans BA.out.size (by simp)) ?_; intro v' w2 hown' hgrow hnil hat; have HO3' := Lib.hid hown'; have HX := Lib.hid (own_append_other (O4a.out.alloc _) HAP.out hgrow hat); have r58 := Lib.hid (own_keep_row (O3a.out.alloc _) hgrow (HR.out.below ((Below.refl _ _).alloc (Nat.le_refl _) (.cells #[.int .i64 p2] 3)) (by simp)) (by decide)); have BA2 := Lib.hid ((Below.al BA.out (Nat.le_refl _) (.cells #[.int .i64 p2] 3)).trans (own_below' (O3a.out.alloc _) (Nat.le_trans BA.out.size (by simp)) hgrow)); clear hown' hgrow hnil hat)
      have HO4w := Lib.hid HX.out.1
      have hn0 : W0.heap.size ≤ w2.heap.size := BA2.out.size
      have l6 : wr.heap.size < w2.heap.size := r58.out.lt
      clear c0 c1 hx hy O3a O4a BA HR HO3 HO4 HB
      refine wp_region_slots2 (by kernel_rfl) (by kernel_rfl) [20, 21, 22, 23, 24, 25, 26, 27, 28, 29, 4] (balJ w2 W0.heap.size k L4 u4 wr.heap.size p1 p2 M) ⟨[u20, u21, u22, u23, u24, u25, u26, u27, u28, u29, u4], by simp only [putAll, Act.put, List.setIfInBounds_toArray, List.set_cons_succ, List.set_cons_zero], balJ_start _ _ _ _ _ _ _ _ _ _ _ _ _ _ _ _ _ _ _ _ _ (Below.refl _ _).drew rfl⟩ ?_ ?_
      · rintro i o' bs vs W K ho ⟨b0, b1, b2, b3, b4, b5, b6, b7, b8, b9, b10, x0, x1, x2, x3, x4, x5, x6, x7, x8, x9, x10, rfl, rfl, J⟩ _ hb hw hK
        have HK := Lib.hid hK
        have HJ := Lib.hid J
        have HW := Lib.hid hw
        clear hK J hw
        match i with
        | 0 =>
          obtain rfl : _ = o' := Option.some.inj ho
          have e0 : b0 = false := by simpa using hb
          have e9 : b9 = false := by
            cases h9 : b9 with
            | false => rfl
            | true => have := HJ.out.up0 h9; rw [e0] at this; cases this
          have hbw := HJ.out.below e9
          have e10 : b10 = false := by
            cases h10 : b10 with
            | false => rfl
            | true => have := HJ.out.o109 h10; rw [e9] at this; cases this
          obtain rfl := HJ.out.tt e10
          refine wpOp_of_list rfl ?_
          simp only [putAll, Act.put, List.setIfInBounds_toArray, List.set_cons_succ, List.set_cons_zero]
          clear hb ho
          go_wp2_with fail
          have fin := HK.out [x10, x1, x2, x3, x4, x5, x6, x7, x8, x9, x10] W (balJ_mk { HJ.out with s0 := fun _ => rfl, o90 := fun _ => rfl })
          simp only [putAll, Act.put, List.setIfInBounds_toArray, List.set_cons_succ, List.set_cons_zero] at fin
          exact fin
        | 1 =>
          obtain rfl : _ = o' := Option.some.inj ho
          have e0 : b1 = false := by simpa using hb
          have e9 : b9 = false := by
            cases h9 : b9 with
            | false => rfl
            | true => have := HJ.out.up1 h9; rw [e0] at this; cases this
          have hbw := HJ.out.below e9
          refine wpOp_of_list rfl ?_
          simp only [putAll, Act.put, List.setIfInBounds_toArray, List.set_cons_succ, List.set_cons_zero]
          clear hb ho
          go_wp2_with fail
          have fin := HK.out [x0, .int .i64 p2, x2, x3, x4, x5, x6, x7, x8, x9, x10] W (balJ_mk { HJ.out with s1 := fun _ => rfl, o71 := fun _ => rfl })
          simp only [putAll, Act.put, List.setIfInBounds_toArray, List.set_cons_succ, List.set_cons_zero] at fin
          exact fin
        | 2 =>
          obtain rfl : _ = o' := Option.some.inj ho
          have e0 : b2 = false := by simpa using hb
          have e9 : b9 = false := by
            cases h9 : b9 with
            | false => rfl
            | true => have := HJ.out.up2 h9; rw [e0] at this; cases this
          have hbw := HJ.out.below e9
          refine wpOp_of_list rfl ?_
          simp only [putAll, Act.put, List.setIfInBounds_toArray, List.set_cons_succ, List.set_cons_zero]
          clear hb ho
          go_wp2_with fail
          have fin := HK.out [x0, x1, .pointer (some ⟨wr.heap.size, 0, none⟩), x3, x4, x5, x6, x7, x8, x9, x10] W (balJ_mk { HJ.out with s2 := fun _ => rfl, o32 := fun _ => rfl })
          simp only [putAll, Act.put, List.setIfInBounds_toArray, List.set_cons_succ, List.set_cons_zero] at fin
          exact fin
        | 3 =>
          obtain rfl : _ = o' := Option.some.inj ho
          have e0 : b3 = false := by simpa using hb
          have e9 : b9 = false := by
            cases h9 : b9 with
            | false => rfl
            | true => have := HJ.out.up3 h9; rw [e0] at this; cases this
          have hbw := HJ.out.below e9
          obtain rfl := HJ.out.s2 (HW.out ⟨2, .data⟩ (by simp) rfl)
          obtain ⟨q0, q1, _, _⟩ := two_cells (r58.out.below hbw l6)
          refine wpOp_of_list rfl ?_
          simp only [putAll, Act.put, List.setIfInBounds_toArray, List.set_cons_succ, List.set_cons_zero]
          clear hb ho
          go_wp2_with fail
          have fin := HK.out [x0, x1, .pointer (some ⟨wr.heap.size, 0, none⟩), .int .i64 p1, x4, x5, x6, x7, x8, x9, x10] W (balJ_mk { HJ.out with s3 := fun _ => rfl, o32 := fun _ => HW.out ⟨2, .data⟩ (by simp) rfl, o63 := fun _ => rfl })
          simp only [putAll, Act.put, List.setIfInBounds_toArray, List.set_cons_succ, List.set_cons_zero] at fin
          exact fin
        | 4 =>
          obtain rfl : _ = o' := Option.some.inj ho
          have e0 : b4 = false := by simpa using hb
          have e9 : b9 = false := by
            cases h9 : b9 with
            | false => rfl
            | true => have := HJ.out.up4 h9; rw [e0] at this; cases this
          have hbw := HJ.out.below e9
          obtain ⟨q0, q1, _, _⟩ := two_cells (r58.out.below hbw l6)
          refine wpOp_of_list rfl ?_
          simp only [putAll, Act.put, List.setIfInBounds_toArray, List.set_cons_succ, List.set_cons_zero]
          clear hb ho
          go_wp2_with fail
          have fin := HK.out [x0, x1, x2, x3, .agg #[.int .i64 p1, .int .i64 p2], x5, x6, x7, x8, x9, x10] W (balJ_mk { HJ.out with s4 := fun _ => rfl, o54 := fun _ => rfl })
          simp only [putAll, Act.put, List.setIfInBounds_toArray, List.set_cons_succ, List.set_cons_zero] at fin
          exact fin
        | 5 =>
          obtain rfl : _ = o' := Option.some.inj ho
          have e0 : b5 = false := by simpa using hb
          have e9 : b9 = false := by
            cases h9 : b9 with
            | false => rfl
            | true => have := HJ.out.up5 h9; rw [e0] at this; cases this
          have hbw := HJ.out.below e9
          have e8 : b8 = false := by
            cases h8 : b8 with
            | false => rfl
            | true => have := HJ.out.o65 (HJ.out.o76 (HJ.out.o87 h8)); rw [e0] at this; cases this
          obtain rfl := HJ.out.s4 (HW.out ⟨4, .data⟩ (by simp) rfl)
          refine wpOp_of_list rfl ?_
          simp only [putAll, Act.put, List.setIfInBounds_toArray, List.set_cons_succ, List.set_cons_zero]
          clear hb ho
          go_wp2_with fail
          refine (right_any p1 p2 _ k1.out k2.out).mono ?_
          rintro e W' ⟨rfl, hb'⟩
          have HB' := Lib.hid (Below.andThen hbw hb' (Nat.le_refl _))
          clear hb' hbw
          go_wp2_with fail
          have fin := HK.out [x0, x1, x2, x3, .agg #[.int .i64 p1, .int .i64 p2], .int .i64 (p1 + p2), x6, x7, x8, x9, x10] W' (balJ_mk { HJ.out with below := fun _ => HB'.out, s5 := fun _ => rfl, s8 := fun h => (by rw [e8] at h; cases h), s9 := fun h => (by rw [e9] at h; cases h), o54 := fun _ => HW.out ⟨4, .data⟩ (by simp) rfl, o65 := fun _ => rfl })
          simp only [putAll, Act.put, List.setIfInBounds_toArray, List.set_cons_succ, List.set_cons_zero] at fin
          exact fin
        | 6 =>
          obtain rfl : _ = o' := Option.some.inj ho
          have e0 : b6 = false := by simpa using hb
          have e9 : b9 = false := by
            cases h9 : b9 with
            | false => rfl
            | true => have := HJ.out.up6 h9; rw [e0] at this; cases this
          have hbw := HJ.out.below e9
          obtain rfl := HJ.out.s3 (HW.out ⟨3, .data⟩ (by simp) rfl)
          obtain rfl := HJ.out.s5 (HW.out ⟨5, .data⟩ (by simp) rfl)
          refine wpOp_of_list rfl ?_
          simp only [putAll, Act.put, List.setIfInBounds_toArray, List.set_cons_succ, List.set_cons_zero]
          clear hb ho
          go_wp2_with fail
          have fin := HK.out [x0, x1, x2, .int .i64 p1, x4, .int .i64 (p1 + p2), .int .i64 (p1 + (p1 + p2)), x7, x8, x9, x10] W (balJ_mk { HJ.out with s6 := fun _ => rfl, o63 := fun _ => HW.out ⟨3, .data⟩ (by simp) rfl, o65 := fun _ => HW.out ⟨5, .data⟩ (by simp) rfl, o76 := fun _ => rfl })
          simp only [putAll, Act.put, List.setIfInBounds_toArray, List.set_cons_succ, List.set_cons_zero] at fin
          exact fin
        | 7 =>
          obtain rfl : _ = o' := Option.some.inj ho
          have e0 : b7 = false := by simpa using hb
          have e9 : b9 = false := by
            cases h9 : b9 with
            | false => rfl
            | true => have := HJ.out.up7 h9; rw [e0] at this; cases this
          have hbw := HJ.out.below e9
          obtain rfl := HJ.out.s1 (HW.out ⟨1, .data⟩ (by simp) rfl)
          obtain rfl := HJ.out.s6 (HW.out ⟨6, .data⟩ (by simp) rfl)
          refine wpOp_of_list rfl ?_
          simp only [putAll, Act.put, List.setIfInBounds_toArray, List.set_cons_succ, List.set_cons_zero]
          clear hb ho
          go_wp2_with fail
          have fin := HK.out [x0, .int .i64 p2, x2, x3, x4, x5, .int .i64 (p1 + (p1 + p2)), .int .i64 M, x8, x9, x10] W (balJ_mk { HJ.out with s7 := fun _ => rfl, o71 := fun _ => HW.out ⟨1, .data⟩ (by simp) rfl, o76 := fun _ => HW.out ⟨6, .data⟩ (by simp) rfl, o87 := fun _ => rfl })
          simp only [putAll, Act.put, List.setIfInBounds_toArray, List.set_cons_succ, List.set_cons_zero] at fin
          exact fin
        | 8 =>
          obtain rfl : _ = o' := Option.some.inj ho
          have e0 : b8 = false := by simpa using hb
          have e9 : b9 = false := by
            cases h9 : b9 with
            | false => rfl
            | true => have := HJ.out.up8 h9; rw [e0] at this; cases this
          have hbw := HJ.out.below e9
          obtain rfl := HJ.out.s7 (HW.out ⟨7, .data⟩ (by simp) rfl)
          have e7 : b7 = true := HW.out ⟨7, .data⟩ (by simp) rfl
          refine wpOp_of_list rfl ?_
          simp only [putAll, Act.put, List.setIfInBounds_toArray, List.set_cons_succ, List.set_cons_zero]
          clear hb ho
          go_wp2_with fail
          have fin := HK.out [x0, x1, x2, x3, x4, x5, x6, .int .i64 M, .slice (some ⟨W.heap.size, 0, none⟩) 1 1, x9, x10] (W.alloc (.cells #[.int .i64 M] 3)) (balJ_mk { HJ.out with below := fun _ => Below.al hbw (Nat.le_refl _) _, s8 := fun _ => ⟨_, rfl, fun _ => by simp [cell_al]⟩, s9 := fun h => (by rw [e9] at h; cases h), o87 := fun _ => e7, o98 := fun _ => rfl })
          simp only [putAll, Act.put, List.setIfInBounds_toArray, List.set_cons_succ, List.set_cons_zero] at fin
          exact fin
        | 9 =>
          obtain rfl : _ = o' := Option.some.inj ho
          have e9 : b9 = false := by simpa using hb
          have hbw := HJ.out.below e9
          have e8 : b8 = true := HW.out ⟨8, .data⟩ (by simp) rfl
          obtain rfl := HJ.out.s0 (HW.out ⟨0, .data⟩ (by simp) rfl)
          obtain ⟨gt, rfl, hgc⟩ := HJ.out.s8 e8
          have hgc' := hgc e9
          have AW := own_grow HO4w.out hbw
          have hnW := Nat.le_trans hn0 hbw.size
          refine wpOp_of_list rfl ?_
          simp only [putAll, Act.put, List.setIfInBounds_toArray, List.set_cons_succ, List.set_cons_zero]
          refine wpList_append_own_at _ rfl _ _ 32 rfl W0.heap.size 3 i0 (.int .i64 0) 1 8 Try.underlying32 hi hz0 hz1 hz2 rfl (by decide) _ _ _ rfl AW ⟨gt, 0, none⟩ 1 1 [encI M] rfl rfl (cell_one_of hgc') (by simp [Value.oneCell', encI]) (by unfold maxLen; omega) (by omega) hnW ?_
          intro v' wz hown' hgrow hnil hat
          have hall := Lib.hid (And.intro ((hbw.mono hn0).trans (own_below' AW hnW hgrow)) (And.intro hown' (fun (u : Value) (zs : List Value) (j : Nat) (hu : w2.ownsRow W0.heap.size 3 1 u j zs) (hap : Apart u x0) => own_append_other (own_grow hu hbw) hap hgrow hat)))
          clear hown' hgrow hnil hat AW hbw hgc hgc' hb ho
          go_wp2_with fail
          have fin := HK.out [x0, x1, x2, x3, x4, x5, x6, x7, .slice (some ⟨gt, 0, none⟩) 1 1, v', x10] wz (balJ_mk { HJ.out with below := fun h => (by cases h), s8 := fun _ => ⟨gt, rfl, fun h => (by cases h)⟩, s9 := fun _ => hall.out, s10 := fun h => (by have := HJ.out.o109 h; rw [e9] at this; cases this), o109 := fun _ => rfl, o98 := fun _ => e8, o90 := fun _ => HW.out ⟨0, .data⟩ (by simp) rfl })
          simp only [putAll, Act.put, List.setIfInBounds_toArray, List.set_cons_succ, List.set_cons_zero] at fin
          exact fin
        | 10 =>
          obtain rfl : _ = o' := Option.some.inj ho
          have e9 : b9 = true := HW.out ⟨9, .data⟩ (by simp) rfl
          refine wpOp_of_list rfl ?_
          simp only [putAll, Act.put, List.setIfInBounds_toArray, List.set_cons_succ, List.set_cons_zero]
          clear hb ho
          go_wp2_with fail
          have fin := HK.out [x0, x1, x2, x3, x4, x5, x6, x7, x8, x9, x9] W (balJ_mk { HJ.out with s10 := fun _ => rfl, o109 := fun _ => e9, tt := fun h => (by cases h) })
          simp only [putAll, Act.put, List.setIfInBounds_toArray, List.set_cons_succ, List.set_cons_zero] at fin
          exact fin
        | i + 11 => simp at hb
      · rintro vs W ⟨b0, b1, b2, b3, b4, b5, b6, b7, b8, b9, b10, x0, x1, x2, x3, x4, x5, x6, x7, x8, x9, x10, hbs, rfl, J⟩
        simp only [List.length_cons, List.length_nil, List.replicate_succ, List.replicate_zero, List.cons.injEq, and_true] at hbs
        obtain ⟨rfl, rfl, rfl, rfl, rfl, rfl, rfl, rfl, rfl, rfl, rfl⟩ := hbs
        obtain ⟨f1, f2, f3⟩ := J.s9 rfl
        obtain rfl := J.s10 rfl
        obtain ⟨f4, f5⟩ := f3 _ _ _ HO3'.out HX.out.2.symm
        have F1 := Lib.hid (BA2.out.trans f1)
        have F2 := Lib.hid f2
        have F4 := Lib.hid f4
        have F5 := Lib.hid f5.symm
        clear f1 f2 f3 f4 f5 J
        simp only [putAll, Act.put, List.setIfInBounds_toArray, List.set_cons_succ, List.set_cons_zero]
        go_wp2_with fail
        refine ⟨⟨k + 1, by omega, rfl, Lib.hid (by rw [HS1.out]; exact F4.out), Lib.hid (by rw [HS2.out]; exact F2.out), F5, F1⟩, ?_⟩
        simp [intOf]; omega
    · have hd : decide ((k : Int) < (ps.length : Int)) = false := decide_eq_false (by omega)
      obtain rfl : k = ps.length := by omega
      have e3 : (ps.take ps.length).map (fun p => encI p.2) = (ps.map Prod.snd).map encI := by rw [List.take_length, List.map_map]; rfl
      have e4 : (ps.take ps.length).map (fun p => encI (momP p)) = (ps.map momP).map encI := by rw [List.take_length, List.map_map]; rfl
      have o3 := HO3.out
      have o4 := HO4.out
      rw [e3] at o3
      rw [e4] at o4
      have b3 : ∀ z ∈ ps.map Prod.snd, Bd 100 z := fun z hz => by
        obtain ⟨p, hp, rfl⟩ := List.mem_map.1 hz
        obtain ⟨i, hi, rfl⟩ := List.getElem_of_mem hp
        have := HBD.out i hi; unfold Bd; omega
      have b4 : ∀ z ∈ ps.map momP, Bd 300000 z := fun z hz => by
        obtain ⟨p, hp, rfl⟩ := List.mem_map.1 hz
        obtain ⟨i, hi, rfl⟩ := List.getElem_of_mem hp
        have h := HBD.out i hi
        have h2 : Bd 100 ps[i].2 := by unfold Bd; omega
        exact (h2.mul (h.1.add (h.1.add h2))).mono (by omega)
      have hpos : 0 < (ps.map Prod.snd).sum := sum_pos _ (fun z hz => by
        obtain ⟨p, hp, rfl⟩ := List.mem_map.1 hz
        obtain ⟨i, hi, rfl⟩ := List.getElem_of_mem hp
        have := HBD.out i hi; omega) (by rw [Ne, List.map_eq_nil_iff]; intro h; rw [h] at h1; simp at h1)
      obtain ⟨g3, c3, hv3, l3, n3⟩ := own_ints o3 (by rw [Ne, List.map_eq_nil_iff]; intro h; rw [h] at h1; simp at h1)
      obtain ⟨g4, c4, hv4, l4, n4⟩ := own_ints o4 (by rw [Ne, List.map_eq_nil_iff]; intro h; rw [h] at h1; simp at h1)
      have S3 := sum_any _ g3 0 c3 wr n3 (by simp; omega) (sumBd_of (by omega) b3 (by simp; omega) (by omega)) (by rw [List.length_map]; omega)
      have S4 := sum_any _ g4 0 c4 wr n4 (by simp; omega) (sumBd_of (by omega) b4 (by simp; omega) (by omega)) (by rw [List.length_map]; omega)
      have q3 := bd_len (by omega) (sum_bd (by omega) _ b3) (n := 12) (by simp; omega)
      have q4 := bd_len (by omega) (sum_bd (by omega) _ b4) (n := 12) (by simp; omega)
      have fin : balF ps = frac (ps.map momP).sum (2 * (ps.map Prod.snd).sum) := rfl
      rw [List.length_map] at hv3 hv4 S3 S4
      subst hv3
      subst hv4
      generalize (ps.map momP).sum = MS at *
      generalize (ps.map Prod.snd).sum = WS at *
      have e5 : IntKind.i64.wrap (2 * WS) = 2 * WS := i64_bd (B := 100000) (by unfold Bd at *; omega) (by omega)
      have hFR := fun W => fractionOf_any MS (2 * WS) W (q4.mono (by simp)) (by unfold Bd at *; omega) (by omega)
      have hff := HFF.out
      rw [fin] at hff
      rw [hff] at hFR
      dsimp only at hFR
      have HFR := Lib.hid hFR
      have HS3 := Lib.hid S3
      have HS4 := Lib.hid S4
      have rr := r0.out.below HB.out l0
      have lr := rr.lt
      clear hFR hff fin S3 S4 q3 q4 n3 n4 o3 o4 e3 e4 b3 b4 hpos l3 l4
      go_wp2_with fail
      refine HS4.out.mono ?_
      rintro e w5 ⟨rfl, rfl⟩
      go_wp2_with fail
      refine HS3.out.mono ?_
      rintro e w6 ⟨rfl, rfl⟩
      go_wp2_with fail
      refine (HFR.out _).mono ?_
      rintro e w7 ⟨rfl, hb7⟩
      obtain ⟨z0, z1, z2, z3⟩ := two_cells (rr.below hb7 lr)
      have T7 := Lib.hid (Below.andThen B0.out (Below.andThen HB.out hb7 (Nat.le_refl _)) (Nat.le_refl _))
      clear hb7 rr
      go_wp2_with fail
      obtain ⟨q0, q1⟩ := two_set (x := .int .i64 fn) (y := .int .i64 fd) z0 z1
      refine bodyPost_ret (v := .agg #[.int .i64 fn, .int .i64 fd]) (by simp [results, Try.results94, go_sem, q0, q1]) rfl ⟨rfl, ?_⟩
      exact (T7.out.setCell (p := ⟨w.heap.size, 0, none⟩) (Nat.le_refl _) _).setCell (p := ⟨w.heap.size, 1, none⟩) (Nat.le_refl _) _
end Go.Proofs.Ytlehddifcjklgaa
namespace Go.Proofs.Ytlehddifcjklgaa
open Go.RowKit Go.Shelf
attribute [local go_sem] Oper.semAt_some
theorem PtsAt.drop {W : World} {b : Nat} {ps : List Pt} (h : PtsAt W b 0 ps) (k : Nat) : PtsAt W b (k * 2) (ps.drop k) :=
  ⟨h.lt, fun i hi => by
    have hi' : k + i < ps.length := by rw [List.length_drop] at hi; omega
    have := h.x (k + i) hi'
    rw [List.getElem_drop, show k * 2 + i * 2 = 0 + (k + i) * 2 by omega]; exact this, fun i hi => by
    have hi' : k + i < ps.length := by rw [List.length_drop] at hi; omega
    have := h.y (k + i) hi'
    rw [List.getElem_drop, show k * 2 + i * 2 + 1 = 0 + (k + i) * 2 + 1 by omega]; exact this⟩
theorem balF_bd {ps : List Pt} (h12 : ps.length ≤ 12) (hbd : ∀ i (h : i < ps.length), Bd 1000 ps[i].1 ∧ 1 ≤ ps[i].2 ∧ ps[i].2 ≤ 100) : Bd 1000000000 (balF ps).1 ∧ Bd 1000000000 (balF ps).2 := by
  have b3 : ∀ z ∈ ps.map Prod.snd, Bd 100 z := fun z hz => by
    obtain ⟨p, hp, rfl⟩ := List.mem_map.1 hz
    obtain ⟨i, hi, rfl⟩ := List.getElem_of_mem hp
    have := hbd i hi; unfold Bd; omega
  have b4 : ∀ z ∈ ps.map momP, Bd 300000 z := fun z hz => by
    obtain ⟨p, hp, rfl⟩ := List.mem_map.1 hz
    obtain ⟨i, hi, rfl⟩ := List.getElem_of_mem hp
    have h := hbd i hi
    have h2 : Bd 100 ps[i].2 := by unfold Bd; omega
    exact (h2.mul (h.1.add (h.1.add h2))).mono (by omega)
  have q3 := bd_len (by omega) (sum_bd (by omega) _ b3) (n := 12) (by simp; omega)
  have q4 := bd_len (by omega) (sum_bd (by omega) _ b4) (n := 12) (by simp; omega)
  exact frac_bd (q4.mono (by simp)) (by unfold Bd at *; simp at q3; omega)
/-- is the balance at plank k over what is below it? -/
def heldB (ps : List Pt) (k : Nat) : Bool :=
  if k = 0 then !lessF (0, 1) (balF (ps.drop k)) else withinF (balF (ps.drop k)) ((ptAt ps (k - 1)).1, 1) ((ptAt ps (k - 1)).1 + (ptAt ps (k - 1)).2, 1)
theorem find_first {p : Nat → Bool} {n k : Nat} (h : ∀ j, j < k → p j = false) (hk : p k = true) (hn : k < n) : (List.range n).find? p = some k := by
  rw [List.find?_range_eq_some]
  exact ⟨hk, by simpa using hn, fun j hj => by simp [h j hj]⟩
theorem size58 (w : World) : (Go.sizeOf 58).run Try.prog w = .ok 2 w := by kernel_rfl
theorem slice_from2 (b n c k : Nat) (hk : k < n) (hn : n ≤ c) (w : World) :
    (Instr.slice 22 (.slice (some ⟨b, 0, none⟩) n c) (some (.int .i64 (k : Int))) none none).run Try.prog w = .ok (.slice (some ⟨b, k * 2, none⟩) (n - k) (c - k)) w := by
  have ht : Try.prog.underlying 22 = some (.slice (Try.prog.elem 22)) := by simp [Program.elem, Try.underlying22]
  have he : Try.prog.elem 22 = 58 := by simp [Program.elem, Try.underlying22]
  rw [run_slice_l w 22 _ _ _ ht .i64 _ (by omega) (by omega), he, size58]
  have hne : ¬ c = k := by omega
  by_cases h0 : k = 0
  · subst h0; simp [Result.andThen, sliced, Addr.add]
  · have h2 : ¬ k * 2 = 0 := by omega
    simp [Result.andThen, sliced, Addr.add, h2, hne]
set_option maxRecDepth 100000 in
set_option maxHeartbeats 1000000 in
theorem isHeld_any (ps : List Pt) (b c k : Nat) (w : World) (hp : PtsAt w b 0 ps) (hk : k < ps.length) (hc : ps.length ≤ c) (h12 : ps.length ≤ 12) (hbd : ∀ i (h : i < ps.length), Bd 1000 ps[i].1 ∧ 1 ≤ ps[i].2 ∧ ps[i].2 ≤ 100) :
    Calls Try.prog 92 #[.slice (some ⟨b, 0, none⟩) ps.length c, .int .i64 (k : Int)] w fun e w' => e = .returned (.bool (heldB ps k)) ∧ Below w.heap.size w w' := by
  have hbd' : ∀ i (h : i < (ps.drop k).length), Bd 1000 (ps.drop k)[i].1 ∧ 1 ≤ (ps.drop k)[i].2 ∧ (ps.drop k)[i].2 ≤ 100 := fun i h => by
    rw [List.getElem_drop]; exact hbd _ _
  have hl' : (ps.drop k).length = ps.length - k := List.length_drop ..
  have HBAL := Lib.hid (fun W (h : PtsAt W b 0 ps) => balance_any (ps.drop k) b (k * 2) (c - k) W (h.drop k) (by omega) (by omega) hbd')
  obtain ⟨n1, n2⟩ := balF_bd (ps := ps.drop k) (by omega) hbd'
  rw [hl'] at HBAL
  have s1 : ∀ w, (Instr.slice 22 (.slice (some ⟨b, 0, none⟩) ps.length c) (some (.int .i64 (k : Int))) none none).run Try.prog w = .ok (.slice (some ⟨b, k * 2, none⟩) (ps.length - k) (c - k)) w := fun w => slice_from2 b _ c k hk hc w
  have hfin : heldB ps k = if k = 0 then !lessF (0, 1) (balF (ps.drop k)) else withinF (balF (ps.drop k)) ((ptAt ps (k - 1)).1, 1) ((ptAt ps (k - 1)).1 + (ptAt ps (k - 1)).2, 1) := rfl
  obtain ⟨an, ad, ha⟩ : ∃ an ad, balF (ps.drop k) = (an, ad) := ⟨_, _, rfl⟩
  rw [ha] at HBAL hfin n1 n2
  dsimp only at HBAL n1 n2
  have HP := Lib.hid hp
  have FIN := Lib.hid hfin
  have HPB := Lib.hid hbd
  clear hbd' hl' ha hp hbd hfin
  go_enter Try.func92, Try.ntmps92
  go_wp2_with fail
  refine (HBAL.out w HP.out).mono ?_
  rintro e w1 ⟨rfl, hb1⟩
  obtain ⟨V, hV⟩ : ∃ V, V = w1.alloc (.cells #[.int .i64 an, .int .i64 ad] 88) := ⟨_, rfl⟩
  have BV := Lib.hid (show Below w.heap.size w V by rw [hV]; exact Below.al hb1 (Nat.le_refl _) _)
  have r88 := Lib.hid (show Row V w1.heap.size 88 [.int .i64 an, .int .i64 ad] by rw [hV]; exact Row.new _ _ _)
  clear hb1
  by_cases hk0 : k = 0
  · have d0 : ((k : Int) == 0) = true := by simp [hk0]
    have k1 := Lib.hid (show Bd 4000000000000000000 (0 * ad) by rw [Int.zero_mul]; unfold Bd; omega)
    have k2 := Lib.hid (show Bd 4000000000000000000 (an * 1) by rw [Int.mul_one]; exact n1.mono (by omega))
    have F2 := Lib.hid (show heldB ps k = !lessF (0, 1) (an, ad) by rw [FIN.out, if_pos hk0])
    clear hk0 s1
    obtain ⟨z0, z1, _, _⟩ := two_cells r88.out
    have x0 := Kl.cell r88.out.lt z0
    have x1 := Kl.cell r88.out.lt z1
    go_wp2_with fail
    rw [← hV]
    clear hV
    refine wp_region_below (by kernel_rfl) (by kernel_rfl) ?_
    repeat (go_big_quiet_step (first | (go_at_call 78; exact Kl.call (whole_any _ _)) | (go_at_call 75; exact Kl.call (less_any 0 1 an ad _ k1.out k2.out))))
    refine wpQuiet_nil ?_
    rintro _ ⟨wq, rfl⟩
    go_wp2_with fail
    go_ret
    exact ⟨ret_bool F2.out.symm, Below.andThen BV.out wq.h (Nat.le_refl _)⟩
  · have d0 : ((k : Int) == 0) = false := beq_eq_false_iff_ne.2 (by omega)
    have hk1 : k - 1 < ps.length := by omega
    have F2 := Lib.hid (show heldB ps k = withinF (an, ad) ((ptAt ps (k - 1)).1, 1) ((ptAt ps (k - 1)).1 + (ptAt ps (k - 1)).2, 1) by rw [FIN.out, if_neg hk0])
    have hpt : ptAt ps (k - 1) = ps[k - 1] := ptAt_lt hk1
    rw [hpt] at F2
    have hb := HPB.out (k - 1) hk1
    have hPV := HP.out.grow BV.out
    have hx := hPV.x _ hk1
    have hy := hPV.y _ hk1
    rw [Nat.zero_add] at hx hy
    have e1 : IntKind.i64.wrap ((k : Int) - 1) = ((k - 1 : Nat) : Int) := by rw [i64_of _ (by omega) (by omega)]; omega
    have e2 : (k : Int) - 1 = ((k - 1 : Nat) : Int) := by omega
    generalize ps[k - 1] = p at *
    obtain ⟨p1, p2⟩ := p
    dsimp only at hx hy hb F2
    have hp2 : Bd 100 p2 := by unfold Bd; omega
    have k1 := Lib.hid (hb.1.mono (C := 100000000) (by omega))
    have k2 := Lib.hid (hp2.mono (C := 100000000) (by omega))
    have k3 := Lib.hid (hb.1.mono (C := 1000000000) (by omega))
    have k4 := Lib.hid ((hb.1.add hp2).mono (C := 1000000000) (by omega))
    have k5 := Lib.hid (n1.mono (C := 1000000000000000000) (by omega))
    have k6 := Lib.hid n2
    obtain ⟨Z, hZ⟩ : ∃ Z, Z = V.alloc (.cells #[.int .i64 p1, .int .i64 p2] 58) := ⟨_, rfl⟩
    have BZ : Below V.heap.size V Z := by rw [hZ]; exact (Below.refl _ _).alloc (Nat.le_refl _) _
    have rz := Lib.hid (r88.out.below BZ r88.out.lt)
    have r58 := Lib.hid (show Row Z (w1.heap.size + 1) 58 [.int .i64 p1, .int .i64 p2] by
      have h0 : Row Z V.heap.size 58 [.int .i64 p1, .int .i64 p2] := by rw [hZ]; exact Row.new _ _ _
      have hs : V.heap.size = w1.heap.size + 1 := by rw [hV, size_al]
      rw [hs] at h0; exact h0)
    have BZw := Lib.hid (Below.andThen BV.out BZ (Nat.le_refl _))
    rw [hV] at hx hy
    clear hb hp2 hPV hpt hk0 s1 BZ
    generalize hkk : k - 1 = kk at *
    clear hkk
    go_wp2_with fail
    rw [← hV, ← hZ]
    clear hV hZ
    obtain ⟨z0, z1, _, _⟩ := two_cells rz.out
    obtain ⟨z2, z3, _, _⟩ := two_cells r58.out
    have x0 := Kl.cell rz.out.lt z0
    have x1 := Kl.cell rz.out.lt z1
    have x2 := Kl.cell r58.out.lt z2
    have x3 := Kl.cell r58.out.lt z3
    refine wp_region_below (by kernel_rfl) (by kernel_rfl) ?_
    repeat (go_big_quiet_step (first | (go_at_call 78; exact Kl.call (whole_any _ _)) | (go_at_call 93; exact Kl.call (right_any p1 p2 _ k1.out k2.out)) | (go_at_call 100; exact Kl.call (within_any an ad p1 (p1 + p2) _ k5.out k6.out k3.out k4.out))))
    refine wpQuiet_nil ?_
    rintro _ ⟨wq, rfl⟩
    go_wp2_with fail
    go_ret
    exact ⟨ret_bool F2.out.symm, Below.andThen BZw.out wq.h (Nat.le_refl _)⟩
/-- the first plank that is not held -/
def standF (ps : List Pt) : Int × Bool :=
  match (List.range ps.length).find? (fun k => !heldB ps k) with
  | some k => ((k : Int), false)
  | none => (0, true)
set_option maxRecDepth 100000 in
set_option maxHeartbeats 1000000 in
theorem Stands_any (ps : List Pt) (b c : Nat) (w : World) (hp : PtsAt w b 0 ps) (hc : ps.length ≤ c) (ht : twrB ps = true) :
    Calls Try.prog 48 #[.slice (some ⟨b, 0, none⟩) ps.length c] w fun e w' => e = .returned (.tuple #[.int .i64 (standF ps).1, .bool (standF ps).2, .int .i64 0]) ∧ Below w.heap.size w w' := by
  obtain ⟨h1, h12⟩ := twr_len ht
  have HCT := CheckTower_any ps b 0 c w hp (by omega)
  rw [ht] at HCT
  have HH := Lib.hid (fun W k (h : PtsAt W b 0 ps) (hk : k < ps.length) => isHeld_any ps b c k W h hk hc h12 (fun i hi => twr_bd ht hi))
  have HP := Lib.hid hp
  obtain ⟨E1, E2, hE⟩ : ∃ E1 E2, standF ps = (E1, E2) := ⟨_, _, rfl⟩
  rw [hE]
  have HE := Lib.hid hE
  have HCT' := Lib.hid HCT
  dsimp only
  clear hp ht HCT hE
  go_enter Try.func48, Try.ntmps48
  go_wp2_with fail
  refine HCT'.out.mono ?_
  rintro e w1 ⟨rfl, hb1⟩
  have T1 := Lib.hid hb1
  clear hb1 HCT'
  go_wp2_with fail
  go_loopw [14] (fun i wr => ∃ k : Nat, k ≤ ps.length ∧ i = .int .i64 (k : Int) ∧ Hid (Below w.heap.size w wr) ∧ Hid (∀ j, j < k → heldB ps j = true)) (fun i _ => ps.length - (intOf i).toNat)
  case atStart => exact ⟨0, by omega, rfl, T1, Lib.hid (fun j h => by omega)⟩
  case round =>
    obtain ⟨k, hk, rfl, HB, HK⟩ := hrel
    by_cases hlt : k < ps.length
    · have hd : decide ((k : Int) < (ps.length : Int)) = true := decide_eq_true (by omega)
      go_wp2_with fail
      refine (HH.out wr k (HP.out.grow HB.out) hlt).mono ?_
      rintro e w3 ⟨rfl, hb3⟩
      have HB3 := Lib.hid (Below.andThen HB.out hb3 (Nat.le_refl _))
      clear hb3
      cases hh : heldB ps k
      · have hfin : E1 = (k : Int) ∧ E2 = false := by
          have h := HE.out
          unfold standF at h
          rw [find_first (fun j hj => by simp [HK.out j hj]) (by simp [hh]) hlt] at h
          simp at h; exact ⟨h.1.symm, h.2⟩
        have HF := Lib.hid hfin
        clear hfin hh
        go_wp2_with fail
        rw [HF.out.1, HF.out.2]
        exact bodyPost_ret (v := .tuple #[.int .i64 (k : Int), .bool false, .int .i64 0]) (by simp [results, Try.results48, go_sem]) rfl ⟨rfl, HB3.out⟩
      · have HKK := Lib.hid (show ∀ j, j < k + 1 → heldB ps j = true from fun j hj => by
          by_cases h : j = k
          · subst h; exact hh
          · exact HK.out j (by omega))
        clear hh
        go_wp2_with fail
        go_roundw
        case rel => exact ⟨k + 1, by omega, rfl, HB3, HKK⟩
        case measure => simp [intOf]; omega
    · have hd : decide ((k : Int) < (ps.length : Int)) = false := decide_eq_false (by omega)
      obtain rfl : k = ps.length := by omega
      have hfin : E1 = 0 ∧ E2 = true := by
        have h := HE.out
        unfold standF at h
        rw [List.find?_eq_none.2 (fun j hj => by simp [HK.out j (List.mem_range.1 hj)])] at h
        simp at h; exact ⟨h.1.symm, by simpa using h.2.symm⟩
      have HF := Lib.hid hfin
      clear hfin
      go_wp2_with fail
      rw [HF.out.1, HF.out.2]
      exact bodyPost_ret (v := .tuple #[.int .i64 0, .bool true, .int .i64 0]) (by simp [results, Try.results48, go_sem]) rfl ⟨rfl, HB.out⟩
end Go.Proofs.Ytlehddifcjklgaa
namespace Go.Proofs.Ytlehddifcjklgaa
open Go.RowKit Go.Shelf
attribute [local go_sem] Oper.semAt_some
set_option maxHeartbeats 1000000 in
theorem ints_any (xs ys : List Int) (g h c d : Nat) (w : World) (hx : IntsAt w g 0 xs) (hy : IntsAt w h 0 ys) (hl : xs.length = ys.length) (h1 : xs.length ≤ 1000) :
    Calls Try.prog 34 #[.slice (some ⟨g, 0, none⟩) xs.length c, .slice (some ⟨h, 0, none⟩) ys.length d] w fun e w' => e = .returned (.bool (decide (xs = ys))) ∧ Below w.heap.size w w' := by
  have d1 : ((xs.length : Int) != (ys.length : Int)) = false := by simp; omega
  have HX := Lib.hid hx
  have HY := Lib.hid hy
  have HL := Lib.hid hl
  obtain ⟨E, hE⟩ : ∃ E, decide (xs = ys) = E := ⟨_, rfl⟩
  rw [hE]
  have HE := Lib.hid hE
  clear hx hy hl hE
  go_enter Try.func34, Try.ntmps34
  go_wp2_with fail
  go_loopw [5] (fun i wr => ∃ k : Nat, k ≤ xs.length ∧ i = .int .i64 (k : Int) ∧ Hid (∃ n, wr = w.drewN n) ∧ Hid (xs.take k = ys.take k)) (fun i _ => xs.length - (intOf i).toNat)
  case atStart => exact ⟨0, by omega, rfl, Lib.hid ⟨0, rfl⟩, Lib.hid rfl⟩
  case round =>
    obtain ⟨k, hk, rfl, HN, HK⟩ := hrel
    obtain ⟨n, hn⟩ := HN.out
    have HW := Lib.hid (show Below w.heap.size w wr by rw [hn]; exact below_drewN (Below.refl _ _) _)
    have HX1 := Lib.hid (show IntsAt wr g 0 xs by rw [hn]; exact HX.out.drewN n)
    have HY1 := Lib.hid (show IntsAt wr h 0 ys by rw [hn]; exact HY.out.drewN n)
    have HNN := Lib.hid hn
    clear hn
    by_cases hlt : k < xs.length
    · have hlt2 : k < ys.length := by have := HL.out; omega
      have hd : decide ((k : Int) < (xs.length : Int)) = true := decide_eq_true (by omega)
      have c1 := HX1.out.at_ k hlt
      have c2 := HY1.out.at_ k hlt2
      rw [Nat.zero_add] at c1 c2
      have hs1 : xs.take (k + 1) = xs.take k ++ [xs[k]] := List.take_succ_eq_append_getElem hlt
      have hs2 : ys.take (k + 1) = ys.take k ++ [ys[k]] := List.take_succ_eq_append_getElem hlt2
      have hne : xs[k] ≠ ys[k] → E = false := fun hne => by
        rw [← HE.out]; refine decide_eq_false fun e => hne ?_
        subst e; rfl
      have S1 := Lib.hid hs1
      have S2 := Lib.hid hs2
      have HNE := Lib.hid hne
      clear hs1 hs2 hne
      generalize xs[k] = a at *
      generalize ys[k] = b at *
      go_wp2_with fail
      go_quiet (fail)
      by_cases hab : a = b
      · have dd : (a != b) = false := by simp [hab]
        subst hab
        clear HNE
        go_wp2_with fail
        go_roundw
        case rel => exact ⟨k + 1, by omega, rfl, Lib.hid ⟨_, by rw [HNN.out, drewN_drewN]⟩, Lib.hid (by rw [S1.out, S2.out, HK.out])⟩
        case measure => simp [intOf]; omega
      · have dd : (a != b) = true := by simp [hab]
        have HF := Lib.hid (HNE.out hab)
        clear hab HNE
        go_wp2_with fail
        go_ret
        exact ⟨ret_bool HF.out.symm, below_drewN HW.out _⟩
    · have hd : decide ((k : Int) < (xs.length : Int)) = false := decide_eq_false (by omega)
      have hfin : E = true := by
        rw [← HE.out]; refine decide_eq_true ?_
        have := HK.out
        rw [List.take_of_length_le (by omega), List.take_of_length_le (by have := HL.out; omega)] at this
        exact this
      have HF := Lib.hid hfin
      clear hfin
      go_wp2_with fail
      go_ret
      exact ⟨ret_bool HF.out.symm, HW.out⟩
end Go.Proofs.Ytlehddifcjklgaa
namespace Go.Proofs.Ytlehddifcjklgaa
open Go.RowKit Go.Shelf
attribute [local go_sem] Oper.semAt_some
def flat : List Pt → List Value
  | [] => []
  | p :: ps => .int .i64 p.1 :: .int .i64 p.2 :: flat ps
theorem flat_get : ∀ (ps : List Pt) (i : Nat) (h : i < ps.length), (flat ps)[i * 2]? = some (.int .i64 ps[i].1) ∧ (flat ps)[i * 2 + 1]? = some (.int .i64 ps[i].2)
  | p :: ps, 0, _ => ⟨rfl, rfl⟩
  | p :: ps, i + 1, h => by
    have := flat_get ps i (by simpa using h)
    rw [show (i + 1) * 2 = i * 2 + 2 by omega]
    simpa [flat] using this
theorem ptsAt_row {W : World} {b t : Nat} {ps : List Pt} (h : Row W b t (flat ps)) : PtsAt W b 0 ps :=
  ⟨h.lt, fun i hi => by rw [Nat.zero_add, h.cell]; exact (flat_get ps i hi).1, fun i hi => by rw [Nat.zero_add, h.cell]; exact (flat_get ps i hi).2⟩
def twoP : List Pt := [(-2, 4), (0, 4)]
theorem aw_chk1 : chk boxP = true := by kernel_rfl
theorem aw_chk2 : chk thinP = true := by kernel_rfl
theorem aw_area : area boxP = 16 := by kernel_rfl
theorem aw_mid : mid boxP = (2, 1, 1) := by kernel_rfl
theorem aw_lean : leanF boxP (mid boxP) 1 = (4, 1) := by kernel_rfl
theorem aw_firm : sidesL (firmB thinP (mid thinP)) thinP.length = [0, 1] := by kernel_rfl
theorem aw_roll : rollF thinP (mid thinP) 5 2 = some [2, 1] := by kernel_rfl
theorem aw_pos1 : 0 < area boxP := by rw [aw_area]; omega
theorem aw_area2 : area thinP = 9 := by kernel_rfl
theorem aw_pos2 : 0 < area thinP := by rw [aw_area2]; omega
theorem aw_twr : twrB twoP = true := by kernel_rfl
theorem aw_stand : standF twoP = (0, false) := by kernel_rfl
theorem aw_har : harF 3 = (11, 6) := by kernel_rfl
theorem aw_Area (b : Nat) (W : World) (h : PtsAt W b 0 boxP) : Calls Try.prog 21 #[.slice (some ⟨b, 0, none⟩) 4 4] W fun e w' => e = .returned (.tuple #[.int .i64 16, .int .i64 0]) ∧ Below W.heap.size W w' := by
  have := area_any boxP b 4 W h aw_chk1
  rw [aw_area] at this; exact this
theorem aw_Middle (b : Nat) (W : World) (h : PtsAt W b 0 boxP) : Calls Try.prog 22 #[.slice (some ⟨b, 0, none⟩) 4 4] W fun e w' => e = .returned (.tuple #[.agg #[.int .i64 2, .int .i64 1, .int .i64 1], .int .i64 0]) ∧ Below W.heap.size W w' := by
  have := Middle_any boxP b 4 W h aw_chk1 aw_pos1
  rw [aw_mid] at this; exact this
theorem aw_Lean (b : Nat) (W : World) (h : PtsAt W b 0 boxP) : Calls Try.prog 30 #[.slice (some ⟨b, 0, none⟩) 4 4, .int .i64 1] W fun e w' => e = .returned (.tuple #[.agg #[.int .i64 4, .int .i64 1], .int .i64 0]) ∧ Below W.heap.size W w' := by
  have := Lean_any boxP b 4 1 W h aw_chk1 aw_pos1 (by decide)
  rw [aw_lean] at this; exact this
theorem aw_Firm (b : Nat) (W : World) (h : PtsAt W b 0 thinP) : Calls Try.prog 24 #[.slice (some ⟨b, 0, none⟩) 3 3] W fun e w' => ∃ v, e = .returned (.tuple #[v, .int .i64 0]) ∧ w'.ownsRow W.heap.size 3 1 v 2 (([0, 1] : List Int).map encI) ∧ Below W.heap.size W w' := by
  have := Firm_any thinP b 3 W h aw_chk2 aw_pos2
  rw [aw_firm] at this; exact this
theorem aw_Roll (b : Nat) (W : World) (h : PtsAt W b 0 thinP) : Calls Try.prog 29 #[.slice (some ⟨b, 0, none⟩) 3 3, .int .i64 2] W fun e w' => ∃ v, e = .returned (.tuple #[v, .int .i64 0]) ∧ w'.ownsRow W.heap.size 3 1 v 2 (([2, 1] : List Int).map encI) ∧ Below W.heap.size W w' :=
  Roll_any thinP b 3 2 5 [2, 1] W h aw_chk2 aw_pos2 (by decide) aw_roll (by decide)
theorem aw_Stands (b : Nat) (W : World) (h : PtsAt W b 0 twoP) : Calls Try.prog 48 #[.slice (some ⟨b, 0, none⟩) 2 2] W fun e w' => e = .returned (.tuple #[.int .i64 0, .bool false, .int .i64 0]) ∧ Below W.heap.size W w' := by
  have := Stands_any twoP b 2 W h (by decide) aw_twr
  rw [aw_stand] at this; exact this
theorem aw_Harmonic (W : World) : Calls Try.prog 55 #[.int .i64 3] W fun e w' => e = .returned (.tuple #[.agg #[.int .i64 11, .int .i64 6], .int .i64 0]) ∧ Below W.heap.size W w' := by
  have := Harmonic_any 3 W (by omega) (by omega)
  rw [aw_har] at this; exact this
theorem aw_nil (W : World) : Calls Try.prog 47 #[.slice none 0 0] W fun e w' => e = .returned (.int .i64 31) ∧ Below W.heap.size W w' := by
  have := CheckTower_short [] none 0 W (by simp) (by simp)
  exact this
theorem aw_ints (v : Value) (_zs : List Int) (W : World) (n₀ h : Nat) (a b : Int) (hv : W.ownsRow n₀ 3 1 v 2 (([a, b] : List Int).map encI)) (hh : Row W h 3 [.int .i64 a, .int .i64 b]) :
    Calls Try.prog 34 #[v, .slice (some ⟨h, 0, none⟩) 2 2] W fun e w' => e = .returned (.bool true) ∧ Below W.heap.size W w' := by
  obtain ⟨g, cap, rfl, hlt, hi⟩ := own_ints hv (by simp)
  have hy : IntsAt W h 0 [a, b] := ⟨.inr hh.lt, fun i hi => by
    rw [Nat.zero_add, hh.cell]
    rcases i with _ | _ | i
    · rfl
    · rfl
    · simp at hi; omega⟩
  have := ints_any [a, b] [a, b] g h cap 2 W hi hy rfl (by simp)
  rw [show decide (([a, b] : List Int) = [a, b]) = true from decide_eq_true rfl] at this
  exact this
set_option maxRecDepth 100000 in
set_option maxHeartbeats 4000000 in
theorem awake_any (w : World) : Calls Try.prog 28 #[] w fun e w' => e = .returned (.bool true) ∧ Below w.heap.size w w' := by
  go_enter Try.func28, Try.ntmps28
  go_wp2_with fail
  obtain ⟨W0, hW0⟩ : ∃ W0, W0 = (w.alloc (.cells #[.int .i64 0, .int .i64 0, .int .i64 4, .int .i64 0, .int .i64 4, .int .i64 2, .int .i64 0, .int .i64 2] 58)).alloc (.cells #[.int .i64 0, .int .i64 0, .int .i64 9, .int .i64 0, .int .i64 1, .int .i64 1] 58) := ⟨_, rfl⟩
  have B0 := Lib.hid (show Below w.heap.size w W0 by rw [hW0]; exact ((Below.refl w.heap.size w).alloc (Nat.le_refl _) _).alloc (by simp) _)
  have P : Hid (∀ W, Below W0.heap.size W0 W → PtsAt W w.heap.size 0 boxP ∧ PtsAt W (w.heap.size + 1) 0 thinP) := Lib.hid (fun W h => by
    have r1 : Row (w.alloc (.cells #[.int .i64 0, .int .i64 0, .int .i64 4, .int .i64 0, .int .i64 4, .int .i64 2, .int .i64 0, .int .i64 2] 58)) w.heap.size 58 (flat boxP) := Row.new w 58 (flat boxP)
    have r2 : Row W0 w.heap.size 58 (flat boxP) := by rw [hW0]; exact r1.below ((Below.refl _ _).alloc (Nat.le_refl _) _) (by simp)
    have r3 : Row W0 (w.heap.size + 1) 58 (flat thinP) := by
      have := Row.new (w.alloc (.cells #[.int .i64 0, .int .i64 0, .int .i64 4, .int .i64 0, .int .i64 4, .int .i64 2, .int .i64 0, .int .i64 2] 58)) 58 (flat thinP)
      rw [size_al] at this
      rw [hW0]; exact this
    exact ⟨ptsAt_row (r2.below h r2.lt), ptsAt_row (r3.below h r3.lt)⟩)
  rw [← hW0]
  clear hW0
  have T0 := Lib.hid (Below.refl W0.heap.size W0)
  refine (aw_Area _ W0 (P.out W0 T0.out).1).mono ?_
  rintro e w1 ⟨rfl, hb⟩
  have T1 := Lib.hid (Below.andThen T0.out hb (Nat.le_refl _))
  clear hb T0
  go_wp2_with fail
  refine (aw_Middle _ w1 (P.out w1 T1.out).1).mono ?_
  rintro e w2 ⟨rfl, hb⟩
  have T2 := Lib.hid (Below.al (Below.andThen T1.out hb (Nat.le_refl _)) (Nat.le_refl _) (.cells #[.int .i64 2, .int .i64 1, .int .i64 1] 29))
  have R2 := Lib.hid (Row.new w2 29 [.int .i64 2, .int .i64 1, .int .i64 1])
  clear hb T1
  go_wp2_with fail
  generalize w2.alloc (.cells #[.int .i64 2, .int .i64 1, .int .i64 1] 29) = V2 at *
  refine (aw_Lean _ V2 (P.out V2 T2.out).1).mono ?_
  rintro e w3 ⟨rfl, hb⟩
  have T3 := Lib.hid (Below.al (Below.andThen T2.out hb (Nat.le_refl _)) (Nat.le_refl _) (.cells #[.int .i64 4, .int .i64 1] 39))
  have hs3 := Lib.hid hb.size
  have R2b := Lib.hid ((R2.out.below hb R2.out.lt).below (B := w3.heap.size) ((Below.refl _ _).alloc (Nat.le_refl _) (.cells #[.int .i64 4, .int .i64 1] 39)) (Nat.lt_of_lt_of_le R2.out.lt hb.size))
  have R3 := Lib.hid (Row.new w3 39 [.int .i64 4, .int .i64 1])
  clear hb T2 R2
  go_wp2_with fail
  generalize w3.alloc (.cells #[.int .i64 4, .int .i64 1] 39) = V3 at *
  refine (aw_Firm _ V3 (P.out V3 T3.out).2).mono ?_
  rintro e w4 ⟨vf, rfl, hr, hb⟩
  have T4 := Lib.hid (Below.andThen T3.out hb (Nat.le_refl _))
  have R2c := Lib.hid (R2b.out.below hb R2b.out.lt)
  have R3c := Lib.hid (R3.out.below hb R3.out.lt)
  have O4 := Lib.hid hr
  clear hb hr T3 R2b R3
  go_wp2_with fail
  refine (aw_Roll _ w4 (P.out w4 T4.out).2).mono ?_
  rintro e w5 ⟨vr, rfl, hr, hb⟩
  have T5 := Lib.hid (Below.al (Below.andThen T4.out hb (Nat.le_refl _)) (Nat.le_refl _) (.cells #[.int .i64 (-2), .int .i64 4, .int .i64 0, .int .i64 4] 58))
  have hal := Lib.hid (show Below w5.heap.size w5 (w5.alloc (.cells #[.int .i64 (-2), .int .i64 4, .int .i64 0, .int .i64 4] 58)) from (Below.refl _ _).alloc (Nat.le_refl _) _)
  have R2d := Lib.hid ((R2c.out.below hb R2c.out.lt).below hal.out (Nat.lt_of_lt_of_le R2c.out.lt hb.size))
  have R3d := Lib.hid ((R3c.out.below hb R3c.out.lt).below hal.out (Nat.lt_of_lt_of_le R3c.out.lt hb.size))
  have O4b := Lib.hid (own_grow (own_grow O4.out hb) hal.out)
  have O5 := Lib.hid (own_grow hr hal.out)
  have RT := Lib.hid (Row.new w5 58 (flat twoP))
  clear hb hr T4 R2c R3c O4
  go_wp2_with fail
  refine (aw_Stands w5.heap.size _ (ptsAt_row RT.out)).mono ?_
  rintro e w6 ⟨rfl, hb⟩
  have T6 := Lib.hid (Below.andThen T5.out hb (Nat.le_refl _))
  have R2e := Lib.hid (R2d.out.below hb R2d.out.lt)
  have R3e := Lib.hid (R3d.out.below hb R3d.out.lt)
  have O4c := Lib.hid (own_grow O4b.out hb)
  have O5b := Lib.hid (own_grow O5.out hb)
  clear hb T5 R2d R3d O4b O5 RT hal
  go_wp2_with fail
  refine (aw_Harmonic w6).mono ?_
  rintro e w7 ⟨rfl, hb⟩
  obtain ⟨V7, hV7⟩ : ∃ V7, V7 = w7.alloc (.cells #[.int .i64 11, .int .i64 6] 39) := ⟨_, rfl⟩
  obtain ⟨V8, hV8⟩ : ∃ V8, V8 = V7.alloc (.cells #[.int .i64 0, .int .i64 1] 3) := ⟨_, rfl⟩
  have b67 : Below w6.heap.size w6 V7 := by rw [hV7]; exact Below.al hb (Nat.le_refl _) _
  have r7 : Row V7 w7.heap.size 39 [.int .i64 11, .int .i64 6] := by rw [hV7]; exact Row.new _ _ _
  have b78 : Below V7.heap.size V7 V8 := by rw [hV8]; exact (Below.refl _ _).alloc (Nat.le_refl _) _
  have q2 := R2e.out.below b67 R2e.out.lt
  have q3 := R3e.out.below b67 R3e.out.lt
  obtain ⟨m0, m1, m2⟩ := (show _ ∧ _ ∧ _ from ⟨q2.cell 0, q2.cell 1, q2.cell 2⟩)
  obtain ⟨n0, n1, _, _⟩ := two_cells q3
  simp only [List.getElem?_cons_zero, List.getElem?_cons_succ] at m0 m1 m2
  rw [hV7] at m0 m1 m2 n0 n1
  have s29 : ∀ W, (Op.equalIn 10000 29 (.agg #[.int .i64 2, .int .i64 1, .int .i64 1]) (.agg #[.int .i64 2, .int .i64 1, .int .i64 1])).run Try.prog W = .ok true W := fun W => by kernel_rfl
  have s39 : ∀ W, (Op.equalIn 10000 39 (.agg #[.int .i64 4, .int .i64 1]) (.agg #[.int .i64 4, .int .i64 1])).run Try.prog W = .ok true W := fun W => by kernel_rfl
  have s39b : ∀ W, (Op.equalIn 10000 39 (.agg #[.int .i64 11, .int .i64 6]) (.agg #[.int .i64 11, .int .i64 6])).run Try.prog W = .ok true W := fun W => by kernel_rfl
  have s7 : V7.heap.size = w7.heap.size + 1 := by rw [hV7, size_al]
  have r8 : Row V8 (w7.heap.size + 1) 3 [.int .i64 0, .int .i64 1] := by
    have h0 : Row V8 V7.heap.size 3 [.int .i64 0, .int .i64 1] := by rw [hV8]; exact Row.new _ _ _
    rw [s7] at h0; exact h0
  have R8 := Lib.hid r8
  have R7 := Lib.hid (r7.below b78 r7.lt)
  have OF := Lib.hid (own_grow (own_grow O4c.out b67) b78)
  have OR := Lib.hid (own_grow (own_grow O5b.out b67) b78)
  have T8 := Lib.hid (Below.andThen (Below.andThen T6.out b67 (Nat.le_refl _)) b78 (Nat.le_refl _))
  clear hb r7 r8 b67 b78 q2 q3 s7 R2e R3e O4c O5b
  go_wp2_with fail
  rw [← hV7, ← hV8]
  clear m0 m1 m2 n0 n1 hV7 hV8
  refine (aw_ints vf [0, 1] V8 _ _ 0 1 OF.out R8.out).mono ?_
  rintro e w9 ⟨rfl, hb⟩
  obtain ⟨V9, hV9⟩ : ∃ V9, V9 = w9.alloc (.cells #[.int .i64 2, .int .i64 1] 3) := ⟨_, rfl⟩
  have b9 : Below V8.heap.size V8 V9 := by rw [hV9]; exact Below.al hb (Nat.le_refl _) _
  have R9 := Lib.hid (show Row V9 w9.heap.size 3 [.int .i64 2, .int .i64 1] by rw [hV9]; exact Row.new _ _ _)
  have R7b := Lib.hid (R7.out.below b9 R7.out.lt)
  have OR9 := Lib.hid (own_grow OR.out b9)
  have T9 := Lib.hid (Below.andThen T8.out b9 (Nat.le_refl _))
  clear hb b9 OF OR R7 R8 T8 T6
  go_wp2_with fail
  rw [← hV9]
  clear hV9
  refine (aw_ints vr [2, 1] V9 _ _ 2 1 OR9.out R9.out).mono ?_
  rintro e w10 ⟨rfl, hb⟩
  obtain ⟨k0, k1, _, _⟩ := two_cells (R7b.out.below hb R7b.out.lt)
  have T10 := Lib.hid (Below.andThen T9.out hb (Nat.le_refl _))
  clear hb OR9 R9 T9
  go_wp2_with fail
  refine (check_nil _).mono ?_
  rintro e w11 ⟨rfl, hb⟩
  have T11 := Lib.hid (Below.andThen T10.out hb (Nat.le_refl _))
  clear hb T10 k0 k1 R7b
  go_wp2_with fail
  refine (aw_nil _).mono ?_
  rintro e w12 ⟨rfl, hb⟩
  have T12 := Lib.hid (Below.andThen T11.out hb (Nat.le_refl _))
  clear hb T11
  go_wp2_with fail
  go_ret
  exact ⟨rfl, Below.andThen B0.out T12.out (Nat.le_refl _)⟩
end Go.Proofs.Ytlehddifcjklgaa
namespace Go.Proofs.Ytlehddifcjklgaa
open Go.RowKit Go.Shelf
attribute [local go_sem] Oper.semAt_some
set_option maxHeartbeats 800000 in
theorem rgcd_any (a b : Int) (w : World) (ha : 0 ≤ a) (hb : 0 ≤ b) (ha2 : a ≤ 4000000000000000000) (hb2 : b ≤ 4000000000000000000) :
    Calls Try.prog 80 #[.int .i64 a, .int .i64 b] w fun e w' => e = .returned (.int .i64 (gcdI a b)) ∧ ∃ n, w' = w.drewN n := by
  have e1 : IntKind.i64.wrap (-a) = -a := i64_of _ (by omega) (by omega)
  have e2 : IntKind.i64.wrap (-b) = -b := i64_of _ (by omega) (by omega)
  go_enter Try.func80, Try.ntmps80
  go_wp2_with fail
  clear e1 e2
  go_loopw [0, 1] (fun x y wr => ∃ p q : Int, 0 ≤ p ∧ 0 ≤ q ∧ p ≤ 4000000000000000000 ∧ q ≤ 4000000000000000000 ∧ Hid (Int.gcd p q = Int.gcd a b) ∧ x = .int .i64 p ∧ y = .int .i64 q ∧ ∃ n, wr = w.drewN n) (fun _ y _ => (intOf y).natAbs)
  case atStart => exact ⟨a, b, ha, hb, ha2, hb2, Lib.hid rfl, rfl, rfl, 0, rfl⟩
  case round =>
    obtain ⟨p, q, hp, hq, hp2, hq2, hg, rfl, rfl, n, rfl⟩ := hrel
    by_cases hz : q = 0
    · subst hz
      have fin : gcdI a b = p := by unfold gcdI; rw [← hg.out]; simp; omega
      have Fin := Lib.hid fin
      clear fin hg
      go_wp2
      go_ret
      exact ⟨ret_int (by rw [Fin.out]), n, rfl⟩
    · have hb1 : decide (0 < q) = true := decide_eq_true (by omega)
      have e2 : ¬ (q = 0) := hz
      have em : p.tmod q = p % q := Int.tmod_eq_emod_of_nonneg hp
      have hm1 := Int.emod_nonneg p hz
      have hm2 := Int.emod_lt_of_pos p (show 0 < q by omega)
      have hg2 : Int.gcd q (p % q) = Int.gcd a b := by
        rw [← hg.out, ← em]; unfold Int.gcd; rw [Int.natAbs_tmod, Nat.gcd_comm p.natAbs, Nat.gcd_rec q.natAbs p.natAbs, Nat.gcd_comm]
      have HG := Lib.hid hg2
      clear hg2 hg
      go_wp2
      go_quiet (fail)
      go_wp2
      go_roundw
      case rel => exact ⟨q, _, hq, hm1, hq2, by omega, HG, rfl, rfl, _, drewN_drewN _ _ _⟩
      case measure => simp only [intOf]; omega
/-- as the reference adds up -/
def hrF : Nat → Int × Int
  | 0 => (0, 1)
  | k + 1 =>
    (((hrF k).1 * ((k : Int) + 1).tdiv (gcdI (hrF k).2 ((k : Int) + 1)) + (hrF k).2.tdiv (gcdI (hrF k).2 ((k : Int) + 1))).tdiv (gcdI ((hrF k).1 * ((k : Int) + 1).tdiv (gcdI (hrF k).2 ((k : Int) + 1)) + (hrF k).2.tdiv (gcdI (hrF k).2 ((k : Int) + 1))) ((hrF k).2.tdiv (gcdI (hrF k).2 ((k : Int) + 1)) * ((k : Int) + 1))),
     ((hrF k).2.tdiv (gcdI (hrF k).2 ((k : Int) + 1)) * ((k : Int) + 1)).tdiv (gcdI ((hrF k).1 * ((k : Int) + 1).tdiv (gcdI (hrF k).2 ((k : Int) + 1)) + (hrF k).2.tdiv (gcdI (hrF k).2 ((k : Int) + 1))) ((hrF k).2.tdiv (gcdI (hrF k).2 ((k : Int) + 1)) * ((k : Int) + 1))))
def inB (x : Int) : Bool := decide (0 ≤ x) && decide (x ≤ 1000000000000000000)
theorem inB_spec {x : Int} (h : inB x = true) : 0 ≤ x ∧ x ≤ 1000000000000000000 := by
  unfold inB at h; simp at h; exact h
def stepOk (a b i : Int) : Bool :=
  let g := gcdI b i
  inB a && (inB b && (decide (0 < b) && (decide (0 < g) && (inB (i.tdiv g) && (inB (b.tdiv g) && (inB (a * i.tdiv g) && (inB (a * i.tdiv g + b.tdiv g) && (inB (b.tdiv g * i) && (decide (0 < gcdI (a * i.tdiv g + b.tdiv g) (b.tdiv g * i)) &&
  (inB ((a * i.tdiv g + b.tdiv g).tdiv (gcdI (a * i.tdiv g + b.tdiv g) (b.tdiv g * i))) && inB ((b.tdiv g * i).tdiv (gcdI (a * i.tdiv g + b.tdiv g) (b.tdiv g * i)))))))))))))
theorem hrOk_all : (List.range 30).all (fun k => stepOk (hrF k).1 (hrF k).2 ((k : Int) + 1)) = true := by kernel_rfl
theorem hr_eq : (List.range 31).all (fun k => decide (hrF k = harF k)) = true := by kernel_rfl
theorem hr_har {n : Nat} (h : n ≤ 30) : hrF n = harF n := of_decide_eq_true (List.all_eq_true.1 hr_eq n (List.mem_range.2 (by omega)))
theorem w_of {x : Int} (h : 0 ≤ x ∧ x ≤ 1000000000000000000) : IntKind.i64.wrap x = x := i64_of _ (by omega) (by omega)
set_option maxRecDepth 100000 in
set_option maxHeartbeats 2000000 in
theorem rHarmonic_any (n : Nat) (w : World) (h30 : n ≤ 30) :
    Calls Try.prog 56 #[.int .i64 (n : Int)] w fun e w' => e = .returned (.agg #[.int .i64 (harF n).1, .int .i64 (harF n).2]) ∧ Below w.heap.size w w' := by
  rw [← hr_har h30]
  obtain ⟨E1, E2, hE⟩ : ∃ E1 E2, hrF n = (E1, E2) := ⟨_, _, rfl⟩
  rw [hE]
  have HE := Lib.hid hE
  clear hE
  dsimp only
  go_enter Try.func56, Try.ntmps56
  go_wp2_with fail
  obtain ⟨W0, hW0⟩ : ∃ W0, W0 = w.alloc (.cells #[.int .i64 0, .int .i64 0] 39) := ⟨_, rfl⟩
  have B0 := Lib.hid (show Below w.heap.size w W0 by rw [hW0]; exact (Below.refl _ _).alloc (Nat.le_refl _) _)
  have r0 := Lib.hid (show Row W0 w.heap.size 39 [.int .i64 0, .int .i64 0] by rw [hW0]; exact Row.new _ _ _)
  rw [← hW0]
  clear hW0
  go_loopw [3, 4, 5] (fun x y i wr => ∃ k : Nat, k ≤ n ∧ i = .int .i64 ((k : Int) + 1) ∧ Hid (x = .int .i64 (hrF k).1 ∧ y = .int .i64 (hrF k).2) ∧ ∃ m, wr = W0.drewN m) (fun _ _ i _ => n + 1 - (intOf i).toNat)
  case atStart => exact ⟨0, by omega, rfl, Lib.hid ⟨rfl, rfl⟩, 0, rfl⟩
  case round =>
    obtain ⟨k, hk, rfl, HXY, m, rfl⟩ := hrel
    obtain ⟨hx, hy⟩ := HXY.out
    by_cases hlt : k < n
    · have hok := List.all_eq_true.1 hrOk_all k (List.mem_range.2 (by omega))
      have hnext : hrF (k + 1) = (((hrF k).1 * ((k : Int) + 1).tdiv (gcdI (hrF k).2 ((k : Int) + 1)) + (hrF k).2.tdiv (gcdI (hrF k).2 ((k : Int) + 1))).tdiv (gcdI ((hrF k).1 * ((k : Int) + 1).tdiv (gcdI (hrF k).2 ((k : Int) + 1)) + (hrF k).2.tdiv (gcdI (hrF k).2 ((k : Int) + 1))) ((hrF k).2.tdiv (gcdI (hrF k).2 ((k : Int) + 1)) * ((k : Int) + 1))),
        ((hrF k).2.tdiv (gcdI (hrF k).2 ((k : Int) + 1)) * ((k : Int) + 1)).tdiv (gcdI ((hrF k).1 * ((k : Int) + 1).tdiv (gcdI (hrF k).2 ((k : Int) + 1)) + (hrF k).2.tdiv (gcdI (hrF k).2 ((k : Int) + 1))) ((hrF k).2.tdiv (gcdI (hrF k).2 ((k : Int) + 1)) * ((k : Int) + 1)))) := rfl
      unfold stepOk at hok
      simp only [Bool.and_eq_true, decide_eq_true_eq] at hok
      generalize hrF k = ab at *
      obtain ⟨a, b⟩ := ab
      dsimp only at hok hnext hx hy
      subst hx
      subst hy
      obtain ⟨i1, i2, i3, i4, i5, i6, i7, i8, i9, i10, i11, i12⟩ := hok
      have d1 : decide ((k : Int) + 1 ≤ (n : Int)) = true := decide_eq_true (by omega)
      have HG1 := Lib.hid (fun W => rgcd_any b ((k : Int) + 1) W (inB_spec i2).1 (by omega) (by have := inB_spec i2; omega) (by omega))
      have g1 : IntKind.i64.wrap (((k : Int) + 1).tdiv (gcdI b ((k : Int) + 1))) = ((k : Int) + 1).tdiv (gcdI b ((k : Int) + 1)) := w_of (inB_spec i5)
      have g2 := w_of (inB_spec i6)
      have g3 := w_of (inB_spec i7)
      have g4 := w_of (inB_spec i8)
      have g5 := w_of (inB_spec i9)
      have g6 := w_of (inB_spec i11)
      have g7 := w_of (inB_spec i12)
      have v1 : ((k : Int) + 1) / (gcdI b ((k : Int) + 1)) = ((k : Int) + 1).tdiv (gcdI b ((k : Int) + 1)) := (Int.tdiv_eq_ediv_of_nonneg (by omega)).symm
      have v2 : b / (gcdI b ((k : Int) + 1)) = b.tdiv (gcdI b ((k : Int) + 1)) := (Int.tdiv_eq_ediv_of_nonneg (inB_spec i2).1).symm
      generalize gcdI b ((k : Int) + 1) = G at *
      obtain ⟨q1, hq1⟩ : ∃ q1, ((k : Int) + 1).tdiv G = q1 := ⟨_, rfl⟩
      obtain ⟨q2, hq2⟩ : ∃ q2, b.tdiv G = q2 := ⟨_, rfl⟩
      rw [hq1] at g1 g3 g4 g6 g7 v1 i7 i8 i10 i11 hnext i5
      rw [hq2] at g2 g4 g5 g6 g7 v2 i8 i9 i10 i11 i12 hnext i6
      have j8 := inB_spec i8
      have j9 := inB_spec i9
      have HG2 := Lib.hid (fun W => rgcd_any (a * q1 + q2) (q2 * ((k : Int) + 1)) W j8.1 j9.1 (by omega) (by omega))
      have v3 : (a * q1 + q2) / (gcdI (a * q1 + q2) (q2 * ((k : Int) + 1))) = (a * q1 + q2).tdiv (gcdI (a * q1 + q2) (q2 * ((k : Int) + 1))) := (Int.tdiv_eq_ediv_of_nonneg j8.1).symm
      have v4 : (q2 * ((k : Int) + 1)) / (gcdI (a * q1 + q2) (q2 * ((k : Int) + 1))) = (q2 * ((k : Int) + 1)).tdiv (gcdI (a * q1 + q2) (q2 * ((k : Int) + 1))) := (Int.tdiv_eq_ediv_of_nonneg j9.1).symm
      have z1 : ¬ G = 0 := by omega
      have z2 : ¬ gcdI (a * q1 + q2) (q2 * ((k : Int) + 1)) = 0 := by omega
      have x1 : wrap64 q1 = q1 := (IntWalk.i64_left _).symm.trans g1
      have x2 : wrap64 q2 = q2 := (IntWalk.i64_left _).symm.trans g2
      have x3 : wrap64 (a * q1) = a * q1 := (IntWalk.i64_left _).symm.trans g3
      have x4 : wrap64 (a * q1 + q2) = a * q1 + q2 := (IntWalk.i64_left _).symm.trans g4
      have x5 : wrap64 (q2 * ((k : Int) + 1)) = q2 * ((k : Int) + 1) := (IntWalk.i64_left _).symm.trans g5
      generalize gcdI (a * q1 + q2) (q2 * ((k : Int) + 1)) = H at *
      obtain ⟨q3, hq3⟩ : ∃ q3, (a * q1 + q2).tdiv H = q3 := ⟨_, rfl⟩
      obtain ⟨q4, hq4⟩ : ∃ q4, (q2 * ((k : Int) + 1)).tdiv H = q4 := ⟨_, rfl⟩
      rw [hq3] at g6 v3 hnext
      rw [hq4] at g7 v4 hnext
      have x6 : wrap64 q3 = q3 := (IntWalk.i64_left _).symm.trans g6
      have x7 : wrap64 q4 = q4 := (IntWalk.i64_left _).symm.trans g7
      have HN := Lib.hid hnext
      clear i1 i2 i3 i4 i5 i6 i7 i8 i9 i10 i11 i12 hnext
      go_wp2_with fail
      refine (HG1.out _).mono ?_
      rintro e w3 ⟨rfl, m1, rfl⟩
      go_wp2_with fail
      go_quiet (fail)
      go_wp2_with fail
      refine (HG2.out _).mono ?_
      rintro e w4 ⟨rfl, m2, rfl⟩
      go_wp2_with fail
      go_roundw
      case rel => exact ⟨k + 1, by omega, by simp, Lib.hid ⟨by rw [HN.out], by rw [HN.out]⟩, _, rfl⟩
      case measure => simp [intOf]; omega
    · obtain rfl : k = n := by omega
      have d1 : decide ((k : Int) + 1 ≤ (k : Int)) = false := decide_eq_false (by omega)
      rw [HE.out] at hx hy
      dsimp only at hx hy
      subst hx
      subst hy
      obtain ⟨z0, z1, z2, z3⟩ := two_cells r0.out
      go_wp2_with fail
      have y0 : (W0.drewN m).cell? ⟨w.heap.size, 0, none⟩ = some (.int .i64 0) := z0
      have y1 : (W0.drewN m).cell? ⟨w.heap.size, 1, none⟩ = some (.int .i64 0) := z1
      obtain ⟨q0, q1⟩ := two_set (x := .int .i64 E1) (y := .int .i64 E2) y0 y1
      refine bodyPost_ret (v := .agg #[.int .i64 E1, .int .i64 E2]) (by simp [results, Try.results56, go_sem, q0, q1]) rfl ⟨rfl, ?_⟩
      exact ((below_drewN B0.out _).setCell (p := ⟨w.heap.size, 0, none⟩) (Nat.le_refl _) _).setCell (p := ⟨w.heap.size, 1, none⟩) (Nat.le_refl _) _
end Go.Proofs.Ytlehddifcjklgaa
namespace Go.Proofs.Ytlehddifcjklgaa
open Go.RowKit Go.Shelf
attribute [local go_sem] Oper.semAt_some
theorem info2 : ∃ i, Try.prog.info? 2 = some i := by
  cases h : Try.prog.info? 2 with
  | some i => exact ⟨i, rfl⟩
  | none =>
    have : (Try.prog.info? 2).isSome = true := by kernel_rfl
    rw [h] at this; cases this
theorem cells2 : Try.prog.cellsOf 2 = 1 := by kernel_rfl
theorem part0 (a b : Int) (W : World) : (part 2 #[.int .i64 a, .int .i64 b] 0).run Try.prog W = .ok (.int .i64 a) W := by kernel_rfl
theorem part1 (a b : Int) (W : World) : (part 2 #[.int .i64 a, .int .i64 b] 1).run Try.prog W = .ok (.int .i64 b) W := by kernel_rfl
theorem eqI (a b : Int) (W : World) : (Op.equalIn 9999 2 (.int .i64 a) (.int .i64 b)).run Try.prog W = .ok (a == b) W := by
  first
    | kernel_rfl
    | simp [Op.equalIn, go_sem]
theorem eq39 (a b : Int) (W : World) : (Op.equalIn 10000 39 (.agg #[.int .i64 a, .int .i64 b]) (.agg #[.int .i64 a, .int .i64 b])).run Try.prog W = .ok true W := by
  obtain ⟨i, hi⟩ := info2
  refine (run_equalIn_array (P := Try.prog) W 9999 _ _ Try.underlying39 hi).trans ?_
  rw [cells2]
  simp only [List.range, List.range.loop, Op.eqItems, Sem.run_bind, Nat.zero_mul, Nat.one_mul, part0, part1, Result.andThen_ok, eqI, beq_self_eq_true, Bool.not_true, Bool.false_eq_true, if_false, Sem.run_pure]
end Go.Proofs.Ytlehddifcjklgaa
namespace Go.Proofs.Ytlehddifcjklgaa
open Go.RowKit Go.Shelf
attribute [local go_sem] Oper.semAt_some
theorem w64_lo (x : Int) : -9223372036854775808 ≤ wrap64 x := by unfold wrap64; omega
theorem w64_hi (x : Int) : wrap64 x ≤ 9223372036854775807 := by unfold wrap64; omega
set_option maxRecDepth 100000 in
set_option maxHeartbeats 2000000 in
theorem HullHarmonic_any (n : Int) (w : World) (hn1 : -9223372036854775808 ≤ n) (hn2 : n ≤ 9223372036854775807) :
    Calls Try.prog 11 #[.int .i64 n] w fun e w' => e = .returned (.bool true) ∧ Below w.heap.size w w' := by
  go_enter Try.func11, Try.ntmps11
  go_wp2_with fail
  go_loopw [0, 3] (fun x r wr => ∃ (m : Int) (j : Nat), x = .int .i64 m ∧ -9223372036854775808 ≤ m ∧ m ≤ 9223372036854775807 ∧ r = .int .i64 (j : Int) ∧ j ≤ 2 ∧ Hid (Below w.heap.size w wr)) (fun _ r _ => 2 - (intOf r).toNat)
  case atStart => exact ⟨n, 0, rfl, hn1, hn2, rfl, by omega, Lib.hid (Below.refl _ _)⟩
  case round =>
    obtain ⟨m, j, rfl, hm1, hm2, rfl, hj, HB⟩ := hrel
    by_cases hlt : j < 2
    · have hd : decide ((j : Int) < 2) = true := decide_eq_true (by omega)
      by_cases hbad : m < 1 ∨ 30 < m
      · have hbb : (decide (m < 1) = true) ∨ (decide (m < 1) = false ∧ decide (30 < m) = true) := by
          by_cases h1 : m < 1
          · exact .inl (decide_eq_true h1)
          · exact .inr ⟨decide_eq_false h1, decide_eq_true (by omega)⟩
        go_wp2_with fail
        refine (Harmonic_bad m wr hbad).mono ?_
        rintro e w1 ⟨rfl, hb⟩
        have T1 := Lib.hid (Below.al (Below.andThen HB.out hb (Nat.le_refl _)) (Nat.le_refl _) (.cells #[.int .i64 0, .int .i64 0] 39))
        have E0 := eq39 0 0
        clear hb
        rcases hbb with dd | ⟨dd, de⟩
        · go_wp2_with fail
          exact ⟨⟨_, j + 1, rfl, w64_lo _, w64_hi _, (by simp), (by omega), T1⟩, (by simp [intOf]; omega)⟩
        · go_wp2_with fail
          exact ⟨⟨_, j + 1, rfl, w64_lo _, w64_hi _, (by simp), (by omega), T1⟩, (by simp [intOf]; omega)⟩
      · obtain ⟨k, rfl⟩ : ∃ k : Nat, m = (k : Int) := ⟨m.toNat, by omega⟩
        have dd : decide ((k : Int) < 1) = false := decide_eq_false (by omega)
        have de : decide (30 < (k : Int)) = false := decide_eq_false (by omega)
        obtain ⟨a, b, hab⟩ : ∃ a b, harF k = (a, b) := ⟨_, _, rfl⟩
        have hH := Harmonic_any k wr (by omega) (by omega)
        have hR := fun W => rHarmonic_any k W (by omega)
        rw [hab] at hH hR
        dsimp only at hH hR
        have HRR := Lib.hid hR
        go_wp2_with fail
        refine hH.mono ?_
        rintro e w1 ⟨rfl, hb⟩
        have T1 := Lib.hid (Below.al (Below.andThen HB.out hb (Nat.le_refl _)) (Nat.le_refl _) (.cells #[.int .i64 a, .int .i64 b] 39))
        have r1 := Row.new w1 39 [.int .i64 a, .int .i64 b]
        have E0 := eq39 a b
        clear hb hH hR
        go_wp2_with fail
        obtain ⟨z0, z1, _, _⟩ := two_cells r1
        have x0 := Kl.cell r1.lt z0
        have x1 := Kl.cell r1.lt z1
        refine wp_region_below (by kernel_rfl) (by kernel_rfl) ?_
        repeat (go_big_quiet_step (first | (go_at_call 56; exact Kl.call (HRR.out _))))
        refine wpQuiet_nil ?_
        rintro _ ⟨wq, rfl⟩
        have T2 := Lib.hid (Below.andThen T1.out wq.h (Nat.le_refl _))
        go_wp2_with fail
        exact ⟨⟨_, j + 1, rfl, by omega, by omega, (by simp), (by omega), T2⟩, (by simp [intOf]; omega)⟩
    · have hd : decide ((j : Int) < 2) = false := decide_eq_false (by omega)
      go_wp2_with fail
      refine (awake_any _).mono ?_
      rintro e w1 ⟨rfl, hb⟩
      have T1 := Lib.hid (Below.andThen HB.out hb (Nat.le_refl _))
      clear hb
      go_wp2_with fail
      go_ret
      exact ⟨rfl, T1.out⟩
end Go.Proofs.Ytlehddifcjklgaa
namespace Go.Proofs.Ytlehddifcjklgaa
open Go.RowKit Go.Shelf Go.ChangeShapes Go.WideShapes Go.Deep
/-- the points of ps, wherever the slice leads -/
def PtsA (W : World) (a : Option Addr) (ps : List Pt) (c : Nat) : Prop := ps = [] ∨ ∃ b o, a = some ⟨b, o, none⟩ ∧ PtsAt W b o ps ∧ ps.length ≤ c
def InI (x : Int) : Prop := -9223372036854775808 ≤ x ∧ x ≤ 9223372036854775807
theorem inI_wf {x : Int} (h : (Lit.int .i64 x).wf = true) : InI x := by
  simp only [Lit.wf, Bool.and_eq_true, decide_eq_true_eq] at h
  exact h
theorem cell_lt {W : World} {b o : Nat} {v : Value} (h : W.cell? ⟨b, o, none⟩ = some v) : b < W.heap.size := by
  rcases Nat.lt_or_ge b W.heap.size with h1 | h1
  · exact h1
  · simp [World.cell?, Array.getElem?_eq_none h1] at h
theorem cells3 : Try.prog.cellsOf 3 = 1 := by kernel_rfl
theorem cells58 : Try.prog.cellsOf 58 = 2 := by kernel_rfl
set_option maxRecDepth 100000 in
theorem open_pts {H : Type} {enc : TypeId × Value → H} {W : World} {base : Nat} {v : Value} {d : DataW H} {p : List MemPlace} (hval : Value.okWide Try.prog W .any base 22 v) (h : DataW.Trod enc Try.prog W 0 (fun _ => true) true 22 v d p) :
    ∃ a c ps, v = .slice a ps.length c ∧ PtsA W a ps c ∧ ps.length ≤ c ∧ (a = none → c = 0) ∧ ps.length ≤ maxLen ∧ ∀ q ∈ ps, InI q.1 ∧ InI q.2 := by
  obtain ⟨a0, len0, cap0, rfl⟩ := okWide_slice Try.underlying22 hval
  obtain ⟨fuel, hf⟩ := h
  rcases open_slice Try.underlying22 hf with ⟨hcs, _⟩ | ⟨a, len, cap, m, n, D, Pl, hcs, hb, hl, hm, hmm, hx, hi⟩
  · simp only [Value.cells, List.cons.injEq, Value.slice.injEq, and_true] at hcs
    obtain ⟨rfl, rfl, rfl⟩ := hcs
    exact ⟨none, 0, [], rfl, .inl rfl, by simp, fun _ => rfl, by simp, fun q h => by cases h⟩
  · simp only [Value.cells, List.cons.injEq, Value.slice.injEq, and_true] at hcs
    obtain ⟨rfl, rfl, rfl⟩ := hcs
    have hlm : len0 ≤ m := by rw [hmm]; simp; omega
    have each : ∀ i, i < len0 → ∃ q : Int × Int, (W.cell? (a.add (i * 2)) = some (.int .i64 q.1) ∧ W.cell? (a.add (i * 2 + 1)) = some (.int .i64 q.2)) ∧ InI q.1 ∧ InI q.2 := fun i hil => by
      obtain ⟨cs', h1, h2⟩ := hi i (by omega)
      rw [cells58] at h1
      obtain ⟨_, hlen, hcell⟩ := World.cells?_some h1
      obtain ⟨xs, k, _, _, _, hxl, hel⟩ := DataW.trod_array Try.underlying58 h2
      have g0 := hel 0 (by omega)
      have g1 := hel 1 (by omega)
      rw [cells3] at g0 g1
      match xs, hxl, cs', hlen with
      | [y0, y1], _, [v0, v1], _ =>
        simp at g0 g1
        obtain ⟨z0, e0, _, w0⟩ := DataW.trod_int Try.underlying3 g0
        obtain ⟨z1, e1, _, w1⟩ := DataW.trod_int Try.underlying3 g1
        simp only [List.cons.injEq, and_true] at e0 e1
        subst e0
        subst e1
        have c0 := hcell 0 (by omega)
        have c1 := hcell 1 (by omega)
        rw [add_add] at c0 c1
        exact ⟨(z0, z1), ⟨by simpa using c0, by simpa using c1⟩, inI_wf w0, inI_wf w1⟩
    obtain ⟨f, hF⟩ := choose_lt each
    refine ⟨some a, cap0, (List.range len0).map f, by simp, ?_, by simp; omega, fun h => by simp at h, by simp; omega, fun q hq => ?_⟩
    · by_cases h0 : len0 = 0
      · left; subst h0; rfl
      · right
        obtain ⟨b, off, spot⟩ := a
        have hsp : spot = none := by
          have := (hF 0 (by omega)).1.1
          simpa [Addr.add] using World.cell?_spot this
        subst hsp
        refine ⟨b, off, rfl, ⟨?_, fun i h => ?_, fun i h => ?_⟩, by simp; omega⟩
        · have := (hF 0 (by omega)).1.1
          rw [Go.WideShapes.add_plain] at this
          exact cell_lt this
        · have := (hF i (by simpa using h)).1.1
          rw [Go.WideShapes.add_plain] at this
          simpa using this
        · have := (hF i (by simpa using h)).1.2
          rw [Go.WideShapes.add_plain] at this
          simpa [Nat.add_assoc] using this
    · obtain ⟨i, hi, rfl⟩ := List.mem_map.1 hq
      exact (hF i (by simpa using hi)).2
end Go.Proofs.Ytlehddifcjklgaa
namespace Go.Proofs.Ytlehddifcjklgaa
open Go.RowKit Go.Shelf
attribute [local go_sem] Oper.semAt_some
theorem PtsA.grow {W W' : World} {a : Option Addr} {ps : List Pt} {c : Nat} (h : PtsA W a ps c) (hb : Below W.heap.size W W') : PtsA W' a ps c := by
  rcases h with h | ⟨b, o, h1, h2, h3⟩
  · exact .inl h
  · exact .inr ⟨b, o, h1, h2.grow hb, h3⟩
theorem twr_take_false {ps : List Pt} {k : Nat} (hk : k < ps.length) (h : plankB ps[k] = false) : twrB ps = false := by
  unfold twrB
  rw [Bool.and_eq_false_iff]; right
  rw [List.all_eq_false]; exact ⟨ps[k], List.getElem_mem _, by simp [h]⟩
set_option maxHeartbeats 1000000 in
theorem rTower_mid (ps : List Pt) (b o c : Nat) (w : World) (hp : PtsAt w b o ps) (hl : ps.length ≤ 1000000) :
    Calls Try.prog 46 #[.slice (some ⟨b, o, none⟩) ps.length c] w fun e w' => e = .returned (.bool (twrB ps)) ∧ Below w.heap.size w w' := by
  obtain ⟨E, hE⟩ : ∃ E : Bool, twrB ps = E := ⟨_, rfl⟩
  rw [hE]
  have HE := Lib.hid hE
  have HP := Lib.hid hp
  clear hp hE
  go_enter Try.func46, Try.ntmps46
  go_wp2_with fail

  go_loopw [3] (fun i wr => ∃ k : Nat, k ≤ ps.length ∧ i = .int .i64 (k : Int) ∧ Hid (Below w.heap.size w wr) ∧ Hid ((ps.take k).all plankB = true)) (fun i _ => ps.length - (intOf i).toNat)
  case atStart => exact ⟨0, by omega, rfl, Lib.hid (Below.refl _ _), Lib.hid rfl⟩
  case round =>
    obtain ⟨k, hk, rfl, HB, HK⟩ := hrel
    by_cases hlt : k < ps.length
    · have hd : decide ((k : Int) < (ps.length : Int)) = true := decide_eq_true (by omega)
      have hx := below_at HB.out HP.out.lt (HP.out.x k hlt)
      have hy := below_at HB.out HP.out.lt (HP.out.y k hlt)
      have HS := Lib.hid (show (ps.take (k + 1)).all plankB = plankB ps[k] by
        rw [List.take_succ_eq_append_getElem hlt, List.all_append, HK.out]; simp)
      have HF := Lib.hid (show plankB ps[k] = false → E = false from fun h => by rw [← HE.out]; exact twr_take_false hlt h)
      generalize ps[k] = p at *
      obtain ⟨p1, p2⟩ := p
      dsimp only at hx hy
      by_cases a1 : p1 < -1000
      · have dd : decide (p1 < -1000) = true := decide_eq_true a1
        have HEE := Lib.hid (HF.out (plank_false (.inl a1)))
        go_wp2_with fail
        go_ret
        exact ⟨ret_bool HEE.out.symm, HB.out⟩
      by_cases a2 : 1000 < p1
      · have dd : decide (p1 < -1000) = false := decide_eq_false a1
        have de : decide (1000 < p1) = true := decide_eq_true a2
        have HEE := Lib.hid (HF.out (plank_false (.inr (.inl a2))))
        go_wp2_with fail
        go_ret
        exact ⟨ret_bool HEE.out.symm, HB.out⟩
      by_cases a3 : p2 < 1
      · have dd : decide (p1 < -1000) = false := decide_eq_false a1
        have de : decide (1000 < p1) = false := decide_eq_false a2
        have df : decide (p2 < 1) = true := decide_eq_true a3
        have HEE := Lib.hid (HF.out (plank_false (.inr (.inr (.inl a3)))))
        go_wp2_with fail
        go_ret
        exact ⟨ret_bool HEE.out.symm, HB.out⟩
      by_cases a4 : 100 < p2
      · have dd : decide (p1 < -1000) = false := decide_eq_false a1
        have de : decide (1000 < p1) = false := decide_eq_false a2
        have df : decide (p2 < 1) = false := decide_eq_false a3
        have dg : decide (100 < p2) = true := decide_eq_true a4
        have HEE := Lib.hid (HF.out (plank_false (.inr (.inr (.inr a4)))))
        go_wp2_with fail
        go_ret
        exact ⟨ret_bool HEE.out.symm, HB.out⟩
      have dd : decide (p1 < -1000) = false := decide_eq_false a1
      have de : decide (1000 < p1) = false := decide_eq_false a2
      have df : decide (p2 < 1) = false := decide_eq_false a3
      have dg : decide (100 < p2) = false := decide_eq_false a4
      have HT := Lib.hid (plank_true (p1 := p1) (p2 := p2) (by omega) (by omega) (by omega) (by omega))
      go_wp2_with fail
      go_roundw
      case rel => exact ⟨k + 1, by omega, rfl, HB, Lib.hid (by rw [HS.out]; exact HT.out)⟩
      case measure => simp [intOf]; omega
    · have hd : decide ((k : Int) < (ps.length : Int)) = false := decide_eq_false (by omega)
      obtain rfl : k = ps.length := by omega
      have HA := Lib.hid (show ps.all plankB = true by have := HK.out; rwa [List.take_length] at this)
      by_cases g1 : 1 ≤ ps.length
      · have d1 : decide (1 ≤ (ps.length : Int)) = true := decide_eq_true (by omega)
        by_cases g2 : ps.length ≤ 12
        · have d2 : decide ((ps.length : Int) ≤ 12) = true := decide_eq_true (by omega)
          have HEE := Lib.hid (show E = true by rw [← HE.out]; unfold twrB; rw [HA.out]; simp [g1, g2])
          go_wp2_with fail
          go_ret
          exact ⟨ret_bool HEE.out.symm, HB.out⟩
        · have d2 : decide ((ps.length : Int) ≤ 12) = false := decide_eq_false (by omega)
          have HEE := Lib.hid (show E = false by rw [← HE.out]; unfold twrB; simp [g2])
          go_wp2_with fail
          go_ret
          exact ⟨ret_bool HEE.out.symm, HB.out⟩
      · have d1 : decide (1 ≤ (ps.length : Int)) = false := decide_eq_false (by omega)
        have HEE := Lib.hid (show E = false by rw [← HE.out]; unfold twrB; simp [g1])
        go_wp2_with fail
        go_ret
        exact ⟨ret_bool HEE.out.symm, HB.out⟩
theorem rTower_nil (a : Option Addr) (c : Nat) (w : World) :
    Calls Try.prog 46 #[.slice a 0 c] w fun e w' => e = .returned (.bool false) ∧ Below w.heap.size w w' := by
  go_enter Try.func46, Try.ntmps46
  go_wp2_with fail
  go_loopw [3] (fun i wr => i = .int .i64 0 ∧ Hid (Below w.heap.size w wr)) (fun i _ => 0)
  case atStart => exact ⟨rfl, Lib.hid (Below.refl _ _)⟩
  case round =>
    obtain ⟨rfl, HB⟩ := hrel
    go_wp2_with fail
    go_ret
    exact ⟨rfl, HB.out⟩
theorem rTower_any (ps : List Pt) (a : Option Addr) (c : Nat) (w : World) (hp : PtsA w a ps c) (hl : ps.length ≤ 1000000) :
    Calls Try.prog 46 #[.slice a ps.length c] w fun e w' => e = .returned (.bool (twrB ps)) ∧ Below w.heap.size w w' := by
  rcases hp with rfl | ⟨b, o, rfl, hp, _⟩
  · exact rTower_nil a c w
  · exact rTower_mid ps b o c w hp hl
theorem CheckTower_all (ps : List Pt) (a : Option Addr) (c : Nat) (w : World) (hp : PtsA w a ps c) (hl : ps.length ≤ 1000000) :
    Calls Try.prog 47 #[.slice a ps.length c] w fun e w' => e = .returned (.int .i64 (if twrB ps then 0 else 31)) ∧ Below w.heap.size w w' := by
  rcases hp with rfl | ⟨b, o, rfl, hp, _⟩
  · exact CheckTower_short [] a c w (by simp) (by simp)
  · exact CheckTower_any ps b o c w hp hl
end Go.Proofs.Ytlehddifcjklgaa
namespace Go.Proofs.Ytlehddifcjklgaa
open Go.RowKit Go.Shelf
attribute [local go_sem] Oper.semAt_some
set_option maxHeartbeats 800000 in
theorem rgcd2_any (a b : Int) (w : World) (ha : Bd 4000000000000000000 a) (hb : Bd 4000000000000000000 b) :
    Calls Try.prog 80 #[.int .i64 a, .int .i64 b] w fun e w' => e = .returned (.int .i64 (gcdI a b)) ∧ ∃ n, w' = w.drewN n := by
  have e1 : IntKind.i64.wrap (-a) = -a := i64_bd ha.neg (by omega)
  have e2 : IntKind.i64.wrap (-b) = -b := i64_bd hb.neg (by omega)
  have HA := Lib.hid ha
  have HB := Lib.hid hb
  clear ha hb
  go_enter Try.func80, Try.ntmps80
  go_wp2_with fail
  all_goals
    clear e1 e2
    go_loopw [0, 1] (fun x y wr => ∃ p q : Int, 0 ≤ p ∧ 0 ≤ q ∧ p ≤ 4000000000000000000 ∧ q ≤ 4000000000000000000 ∧ Hid (Int.gcd p q = Int.gcd a b) ∧ x = .int .i64 p ∧ y = .int .i64 q ∧ ∃ n, wr = w.drewN n) (fun _ y _ => (intOf y).natAbs)
    case atStart =>
      have ha := HA.out
      have hb := HB.out
      unfold Bd at ha hb
      refine ⟨_, _, ?_, ?_, ?_, ?_, ?_, rfl, rfl, 0, rfl⟩
      · omega
      · omega
      · omega
      · omega
      · exact Lib.hid (by simp [Int.gcd])
    case round =>
      obtain ⟨p, q, hp, hq, hp2, hq2, hg, rfl, rfl, n, rfl⟩ := hrel
      by_cases hz : q = 0
      · subst hz
        have fin : gcdI a b = p := by unfold gcdI; rw [← hg.out]; simp; omega
        have Fin := Lib.hid fin
        clear fin hg
        go_wp2
        go_ret
        exact ⟨ret_int (by rw [Fin.out]), n, rfl⟩
      · have hb1 : decide (0 < q) = true := decide_eq_true (by omega)
        have e2 : ¬ (q = 0) := hz
        have em : p.tmod q = p % q := Int.tmod_eq_emod_of_nonneg hp
        have hm1 := Int.emod_nonneg p hz
        have hm2 := Int.emod_lt_of_pos p (show 0 < q by omega)
        have hg2 : Int.gcd q (p % q) = Int.gcd a b := by
          rw [← hg.out, ← em]; unfold Int.gcd; rw [Int.natAbs_tmod, Nat.gcd_comm p.natAbs, Nat.gcd_rec q.natAbs p.natAbs, Nat.gcd_comm]
        have HG := Lib.hid hg2
        clear hg2 hg
        go_wp2
        go_quiet (fail)
        go_wp2
        go_roundw
        case rel => exact ⟨q, _, hq, hm1, hq2, by omega, HG, rfl, rfl, _, drewN_drewN _ _ _⟩
        case measure => simp only [intOf]; omega
/-- the greatest right end of the first planks -/
def rch (ps : List Pt) : Nat → Int
  | 0 => (ptAt ps 0).1 + (ptAt ps 0).2
  | k + 1 => max (rch ps k) ((ptAt ps k).1 + (ptAt ps k).2)
theorem rch_one (ps : List Pt) : rch ps 1 = rch ps 0 := by simp [rch]
theorem rch_bd {ps : List Pt} (hbd : ∀ i (h : i < ps.length), Bd 1000 ps[i].1 ∧ 1 ≤ ps[i].2 ∧ ps[i].2 ≤ 100) (h1 : 1 ≤ ps.length) : ∀ k, k ≤ ps.length → Bd 2000 (rch ps k)
  | 0, _ => by
    have := hbd 0 (by omega)
    unfold rch; rw [ptAt_lt (by omega)]; unfold Bd at *; omega
  | k + 1, hk => by
    have := hbd k (by omega)
    have h2 := rch_bd hbd h1 k (by omega)
    unfold rch; rw [ptAt_lt (by omega)]; unfold Bd at *; omega
set_option maxHeartbeats 1000000 in
theorem rReach_any (ps : List Pt) (b c : Nat) (w : World) (hp : PtsAt w b 0 ps) (h1 : 1 ≤ ps.length) (h12 : ps.length ≤ 12) (hbd : ∀ i (h : i < ps.length), Bd 1000 ps[i].1 ∧ 1 ≤ ps[i].2 ∧ ps[i].2 ≤ 100) :
    Calls Try.prog 54 #[.slice (some ⟨b, 0, none⟩) ps.length c] w fun e w' => e = .returned (.int .i64 (rch ps ps.length)) ∧ Below w.heap.size w w' := by
  have HP := Lib.hid hp
  have HBD := Lib.hid hbd
  have x0 := hp.x 0 (by omega)
  have y0 := hp.y 0 (by omega)
  have b0 := hbd 0 (by omega)
  have r0 := Lib.hid (show rch ps 1 = ps[0].1 + ps[0].2 by rw [rch_one]; unfold rch; rw [ptAt_lt (by omega)])
  generalize ps[0] = q at *
  obtain ⟨q1, q2⟩ := q
  dsimp only at x0 y0 b0 r0
  have e0 : IntKind.i64.wrap (q1 + q2) = q1 + q2 := i64_of _ (by unfold Bd at b0; omega) (by unfold Bd at b0; omega)
  have dn : decide ((0 : Int) < (ps.length : Int)) = true := decide_eq_true (by omega)
  clear hp hbd b0
  rw [show 0 + 0 * 2 = 0 from rfl] at x0
  rw [show 0 + 0 * 2 + 1 = 1 from rfl] at y0
  go_enter Try.func54, Try.ntmps54
  go_wp2_with fail
  go_quiet (fail)
  go_wp2_with fail

  go_loopw [3, 4] (fun x i wr => ∃ k : Nat, 1 ≤ k ∧ k ≤ ps.length ∧ i = .int .i64 (k : Int) ∧ Hid (x = .int .i64 (rch ps k)) ∧ Hid (∃ n, wr = w.drewN n)) (fun _ i _ => ps.length - (intOf i).toNat)
  case atStart => exact ⟨1, by omega, by omega, rfl, Lib.hid (by rw [r0.out]), Lib.hid ⟨_, rfl⟩⟩
  case round =>
    obtain ⟨k, h1k, hk, rfl, HX, HN⟩ := hrel
    by_cases hlt : k < ps.length
    · have hd : decide ((k : Int) < (ps.length : Int)) = true := decide_eq_true (by omega)
      obtain ⟨n, hn⟩ := HN.out
      have hx : wr.cell? ⟨b, 0 + k * 2, none⟩ = some (.int .i64 ps[k].1) := by rw [hn]; exact HP.out.x k hlt
      have hy : wr.cell? ⟨b, 0 + k * 2 + 1, none⟩ = some (.int .i64 ps[k].2) := by rw [hn]; exact HP.out.y k hlt
      rw [Nat.zero_add] at hx hy
      have hb := HBD.out k hlt
      have hbr := rch_bd HBD.out h1 k (by omega)
      have hs : rch ps (k + 1) = max (rch ps k) (ps[k].1 + ps[k].2) := by rw [← ptAt_lt hlt]; rfl
      have hxv := HX.out
      generalize ps[k] = q at *
      obtain ⟨q1, q2⟩ := q
      generalize rch ps k = m at *
      dsimp only at hx hy hb hs
      subst hxv
      have e2 : IntKind.i64.wrap (q1 + q2) = q1 + q2 := i64_of _ (by unfold Bd at hb; omega) (by unfold Bd at hb; omega)
      have HS := Lib.hid hs
      have NN := Lib.hid hn
      clear hs hb hbr hn HX
      go_wp2_with fail
      go_quiet (fail)
      go_wp2_with fail
      all_goals
        go_roundw
        case rel =>
          refine ⟨k + 1, by omega, by omega, rfl, Lib.hid ?_, Lib.hid ⟨_, by rw [NN.out, drewN_drewN]⟩⟩
          rw [HS.out]
          first
            | rfl
            | (congr 1; omega)
        case measure => simp [intOf]; omega
    · have hd : decide ((k : Int) < (ps.length : Int)) = false := decide_eq_false (by omega)
      obtain rfl : k = ps.length := by omega
      have hxv := HX.out
      subst hxv
      obtain ⟨n, hn⟩ := HN.out
      have NN := Lib.hid hn
      clear hn HX
      go_wp2_with fail
      go_ret
      exact ⟨rfl, by rw [NN.out]; exact below_drewN (Below.refl _ _) _⟩
end Go.Proofs.Ytlehddifcjklgaa
namespace Go.Proofs.Ytlehddifcjklgaa
open Go.RowKit Go.Shelf
attribute [local go_sem] Oper.semAt_some
def momS (qs : List Pt) (j : Nat) : Int := ((qs.take j).map momP).sum
def lenS (qs : List Pt) (j : Nat) : Int := ((qs.take j).map Prod.snd).sum
theorem momS_succ {qs : List Pt} {j : Nat} (h : j < qs.length) : momS qs (j + 1) = momS qs j + momP qs[j] := by
  unfold momS; rw [List.take_succ_eq_append_getElem h, List.map_append, List.sum_append]; simp [momP]
theorem lenS_succ {qs : List Pt} {j : Nat} (h : j < qs.length) : lenS qs (j + 1) = lenS qs j + qs[j].2 := by
  unfold lenS; rw [List.take_succ_eq_append_getElem h, List.map_append, List.sum_append]; simp
theorem momP_bd {q : Pt} (h : Bd 1000 q.1 ∧ 1 ≤ q.2 ∧ q.2 ≤ 100) : Bd 300000 (momP q) := by
  have h2 : Bd 100 q.2 := by unfold Bd; omega
  exact (h2.mul (h.1.add (h.1.add h2))).mono (by omega)
theorem momS_bd {qs : List Pt} (hbd : ∀ i (h : i < qs.length), Bd 1000 qs[i].1 ∧ 1 ≤ qs[i].2 ∧ qs[i].2 ≤ 100) : ∀ j, j ≤ qs.length → Bd (300000 * j) (momS qs j) ∧ (j : Int) ≤ lenS qs j ∧ lenS qs j ≤ 100 * j
  | 0, _ => by simp [momS, lenS, Bd]
  | j + 1, h => by
    obtain ⟨h1, h2, h3⟩ := momS_bd hbd j (by omega)
    have hb := hbd j (by omega)
    have := momP_bd hb
    rw [momS_succ (by omega), lenS_succ (by omega)]
    unfold Bd at *; omega
set_option maxHeartbeats 1000000 in
theorem rBalance_any (ps : List Pt) (b c pl : Nat) (w : World) (hp : PtsAt w b 0 ps) (hpl : pl < ps.length) (h12 : ps.length ≤ 12) (hbd : ∀ i (h : i < ps.length), Bd 1000 ps[i].1 ∧ 1 ≤ ps[i].2 ∧ ps[i].2 ≤ 100) :
    Calls Try.prog 53 #[.slice (some ⟨b, 0, none⟩) ps.length c, .int .i64 (pl : Int)] w fun e w' => e = .returned (.agg #[.int .i64 (balF (ps.drop pl)).1, .int .i64 (balF (ps.drop pl)).2]) ∧ Below w.heap.size w w' := by
  have hbd' : ∀ i (h : i < (ps.drop pl).length), Bd 1000 (ps.drop pl)[i].1 ∧ 1 ≤ (ps.drop pl)[i].2 ∧ (ps.drop pl)[i].2 ≤ 100 := fun i h => by
    rw [List.getElem_drop]; exact hbd _ _
  have hql : (ps.drop pl).length = ps.length - pl := List.length_drop ..
  have HP := Lib.hid hp
  have HQ := Lib.hid (show ∀ j (h1 : j < (ps.drop pl).length) (h : pl + j < ps.length), (ps.drop pl)[j] = ps[pl + j] from fun j _ h => List.getElem_drop ..)
  have HBD := Lib.hid hbd'
  have HQL := Lib.hid hql
  obtain ⟨E1, E2, hE⟩ : ∃ E1 E2, balF (ps.drop pl) = (E1, E2) := ⟨_, _, rfl⟩
  rw [hE]
  have HE := Lib.hid hE
  dsimp only
  generalize ps.drop pl = qs at *
  clear hp hbd hbd' hql hE
  go_enter Try.func53, Try.ntmps53
  go_wp2_with fail
  obtain ⟨W0, hW0⟩ : ∃ W0, W0 = w.alloc (.cells #[.int .i64 0, .int .i64 0] 58) := ⟨_, rfl⟩
  have B0 := Lib.hid (show Below w.heap.size w W0 by rw [hW0]; exact (Below.refl _ _).alloc (Nat.le_refl _) _)
  have r0 := Lib.hid (show Row W0 w.heap.size 58 [.int .i64 0, .int .i64 0] by rw [hW0]; exact Row.new _ _ _)
  have HP0 := Lib.hid (HP.out.grow B0.out)
  rw [← hW0]
  clear hW0
  go_loopw [5, 6, 7] (fun x y i wr => ∃ k j : Nat, k = pl + j ∧ k ≤ ps.length ∧ i = .int .i64 (k : Int) ∧ Hid (x = .int .i64 (momS qs j) ∧ y = .int .i64 (2 * lenS qs j)) ∧ Hid (∃ n, wr = W0.drewN n)) (fun _ _ i _ => ps.length - (intOf i).toNat)
  case atStart => exact ⟨pl, 0, by omega, by omega, rfl, Lib.hid ⟨by simp [momS], by simp [lenS]⟩, Lib.hid ⟨0, rfl⟩⟩
  case round =>
    obtain ⟨k, j, hkj, hk, rfl, HX, HN⟩ := hrel
    by_cases hlt : k < ps.length
    · have hd : decide ((k : Int) < (ps.length : Int)) = true := decide_eq_true (by omega)
      obtain ⟨n, hn⟩ := HN.out
      have hj : j < qs.length := by have := HQL.out; omega
      have hx : wr.cell? ⟨b, 0 + k * 2, none⟩ = some (.int .i64 ps[k].1) := by rw [hn]; exact HP0.out.x k hlt
      have hy : wr.cell? ⟨b, 0 + k * 2 + 1, none⟩ = some (.int .i64 ps[k].2) := by rw [hn]; exact HP0.out.y k hlt
      rw [Nat.zero_add] at hx hy
      have hq : qs[j] = ps[k] := by subst hkj; exact HQ.out j hj hlt
      have hb := HBD.out j hj
      have hs := momS_succ hj
      have hs2 := lenS_succ hj
      obtain ⟨m1, m2, m3⟩ := momS_bd HBD.out j (by omega)
      obtain ⟨hxv, hyv⟩ := HX.out
      rw [hq] at hs hs2
      have hb : Bd 1000 ps[k].1 ∧ 1 ≤ ps[k].2 ∧ ps[k].2 ≤ 100 := hq ▸ hb
      generalize ps[k] = q at *
      obtain ⟨q1, q2⟩ := q
      generalize momS qs j = mx at *
      generalize lenS qs j = my at *
      unfold momP at hs
      dsimp only at hx hy hb hs hs2
      subst hxv
      subst hyv
      have hj12 : j ≤ 12 := by have := HQL.out; omega
      have hmm := momP_bd (q := (q1, q2)) hb
      unfold momP at hmm
      dsimp only at hmm
      rw [show q1 + (q1 + q2) = 2 * q1 + q2 by omega] at hmm hs
      have e1 : IntKind.i64.wrap (2 * q1) = 2 * q1 := i64_of _ (by unfold Bd at hb; omega) (by unfold Bd at hb; omega)
      have e2 : IntKind.i64.wrap (2 * q1 + q2) = 2 * q1 + q2 := i64_of _ (by unfold Bd at hb; omega) (by unfold Bd at hb; omega)
      have e3 : IntKind.i64.wrap (q2 * (2 * q1 + q2)) = q2 * (2 * q1 + q2) := i64_bd hmm (by omega)
      have e4 : IntKind.i64.wrap (mx + q2 * (2 * q1 + q2)) = mx + q2 * (2 * q1 + q2) := i64_of _ (by unfold Bd at m1 hmm; omega) (by unfold Bd at m1 hmm; omega)
      have e5 : IntKind.i64.wrap (2 * q2) = 2 * q2 := i64_of _ (by omega) (by omega)
      have e6 : IntKind.i64.wrap (2 * my + 2 * q2) = 2 * my + 2 * q2 := i64_of _ (by omega) (by omega)
      have HS := Lib.hid (And.intro hs hs2)
      have NN := Lib.hid hn
      have HK := Lib.hid hkj
      clear hs hs2 hb hmm m1 m2 m3 hn HX HN hkj hq hj12
      go_wp2_with fail
      go_quiet (fail)
      go_wp2_with fail
      refine ⟨⟨k + 1, j + 1, by have := HK.out; omega, by omega, by simp, Lib.hid ⟨by rw [HS.out.1], by rw [HS.out.2]; congr 1; omega⟩, Lib.hid ⟨_, by rw [NN.out, drewN_drewN]⟩⟩, ?_⟩
      simp [intOf]; omega
    · have hd : decide ((k : Int) < (ps.length : Int)) = false := decide_eq_false (by omega)
      obtain rfl : k = ps.length := by omega
      obtain ⟨hxv, hyv⟩ := HX.out
      obtain ⟨n, hn⟩ := HN.out
      have hjq : j = qs.length := by have := HQL.out; omega
      obtain ⟨m1, m2, m3⟩ := momS_bd HBD.out j (by omega)
      have hfr : balF qs = frac (momS qs j) (2 * lenS qs j) := by subst hjq; unfold balF momS lenS; rw [List.take_length]
      have hq12 : j ≤ 12 ∧ 1 ≤ j := by have := HQL.out; omega
      generalize momS qs j = mx at *
      generalize lenS qs j = my at *
      subst hxv
      subst hyv
      have HG := Lib.hid (fun W => rgcd2_any mx (2 * my) W (m1.mono (by omega)) (by unfold Bd; omega))
      have hg := gcdI_pos (n := mx) (d := 2 * my) (by omega)
      rw [HE.out] at hfr
      unfold frac at hfr
      generalize gcdI mx (2 * my) = G at *
      simp only [Prod.mk.injEq] at hfr
      obtain ⟨f1, f2⟩ := hfr
      have t1 : Bd 4000000 (mx.tdiv G) := (m1.mono (by omega)).tdiv
      have t2 : Bd 4000000 ((2 * my).tdiv G) := Bd.tdiv (by unfold Bd; omega)
      rw [← f1] at t1
      rw [← f2] at t2
      have z1 : ¬ G = 0 := by omega
      have w1 : IntKind.i64.wrap E1 = E1 := i64_bd t1 (by omega)
      have w2 : IntKind.i64.wrap E2 = E2 := i64_bd t2 (by omega)
      have w1' : wrap64 E1 = E1 := (IntWalk.i64_left _).symm.trans w1
      have w2' : wrap64 E2 = E2 := (IntWalk.i64_left _).symm.trans w2
      have f1' := f1.symm
      have f2' := f2.symm
      have NN := Lib.hid hn
      clear f1 f2 hn HX HN m1 m2 m3 t1 t2 hkj
      go_wp2_with fail
      refine (HG.out _).mono ?_
      rintro e w3 ⟨rfl, m, rfl⟩
      have T1 := Lib.hid (show Below W0.heap.size W0 (wr.drewN m) by rw [NN.out, drewN_drewN]; exact below_drewN (Below.refl _ _) _)
      generalize wr.drewN m = V at *
      go_wp2_with fail
      refine wp_region_cut (C := fun w' => ∃ n : Kl V, w' = n.W) 6 (by kernel_rfl) (by kernel_rfl) ⟨⟨V.drew, (Below.refl _ _).drew⟩, rfl⟩ ?_
      simp only [List.take_succ_cons, List.take_zero, List.drop_succ_cons, List.drop_zero]
      repeat (go_big_quiet_step (fail))
      refine wpQuiet_nil ?_
      rintro _ ⟨wq, rfl⟩
      have T2 := Lib.hid (Below.andThen T1.out wq.h (Nat.le_refl _))
      have r2 := r0.out.below T2.out r0.out.lt
      obtain ⟨z0, z1, z2, z3⟩ := two_cells r2
      generalize wq.W = w5 at *
      go_wp2_with fail
      obtain ⟨q0, q1⟩ := two_set (x := .int .i64 E1) (y := .int .i64 E2) z0 z1
      refine bodyPost_ret (v := .agg #[.int .i64 E1, .int .i64 E2]) (by simp [results, Try.results53, go_sem, q0, q1]) rfl ⟨rfl, ?_⟩
      exact ((Below.andThen B0.out T2.out (Nat.le_refl _)).setCell (p := ⟨w.heap.size, 0, none⟩) (by simp) _).setCell (p := ⟨w.heap.size, 1, none⟩) (by simp) _
end Go.Proofs.Ytlehddifcjklgaa
namespace Go.Proofs.Ytlehddifcjklgaa
open Go.RowKit Go.Shelf
attribute [local go_sem] Oper.semAt_some
set_option maxHeartbeats 1000000 in
theorem Stands_bad (ps : List Pt) (a : Option Addr) (c : Nat) (w : World) (hp : PtsA w a ps c) (hl : ps.length ≤ 1000000) (ht : twrB ps = false) :
    Calls Try.prog 48 #[.slice a ps.length c] w fun e w' => e = .returned (.tuple #[.int .i64 0, .bool false, .int .i64 31]) ∧ Below w.heap.size w w' := by
  have HC := CheckTower_all ps a c w hp hl
  rw [ht] at HC
  go_enter Try.func48, Try.ntmps48
  go_wp2_with fail
  refine HC.mono ?_
  rintro e w1 ⟨rfl, hb⟩
  go_wp2_with fail
  exact bodyPost_ret (v := .tuple #[.int .i64 0, .bool false, .int .i64 31]) (by simp [results, Try.results48, go_sem]) rfl ⟨rfl, hb⟩
set_option maxHeartbeats 1000000 in
theorem Reach_bad (ps : List Pt) (a : Option Addr) (c : Nat) (w : World) (hp : PtsA w a ps c) (hl : ps.length ≤ 1000000) (ht : twrB ps = false) :
    Calls Try.prog 49 #[.slice a ps.length c] w fun e w' => e = .returned (.tuple #[.int .i64 0, .int .i64 31]) ∧ Below w.heap.size w w' := by
  have HC := CheckTower_all ps a c w hp hl
  rw [ht] at HC
  go_enter Try.func49, Try.ntmps49
  go_wp2_with fail
  refine HC.mono ?_
  rintro e w1 ⟨rfl, hb⟩
  go_wp2_with fail
  exact bodyPost_ret (v := .tuple #[.int .i64 0, .int .i64 31]) (by simp [results, Try.results49, go_sem]) rfl ⟨rfl, hb⟩
set_option maxHeartbeats 1000000 in
theorem Balance_bad (ps : List Pt) (a : Option Addr) (c : Nat) (pl : Int) (w : World) (hp : PtsA w a ps c) (hl : ps.length ≤ 1000000) (ht : twrB ps = false) :
    Calls Try.prog 50 #[.slice a ps.length c, .int .i64 pl] w fun e w' => e = .returned (.tuple #[.agg #[.int .i64 0, .int .i64 0], .int .i64 31]) ∧ Below w.heap.size w w' := by
  obtain ⟨W0, hW0⟩ : ∃ W0, W0 = w.alloc (.cells #[.int .i64 0, .int .i64 0] 58) := ⟨_, rfl⟩
  have B0 := Lib.hid (show Below w.heap.size w W0 by rw [hW0]; exact (Below.refl _ _).alloc (Nat.le_refl _) _)
  have r0 := Lib.hid (show Row W0 w.heap.size 58 [.int .i64 0, .int .i64 0] by rw [hW0]; exact Row.new _ _ _)
  have HC := CheckTower_all ps a c W0 (hp.grow B0.out) hl
  rw [ht] at HC
  have HH := Lib.hid HC
  clear HC hp
  go_enter Try.func50, Try.ntmps50
  go_wp2_with fail
  rw [← hW0]
  clear hW0
  refine HH.out.mono ?_
  rintro e w1 ⟨rfl, hb⟩
  have T1 := Lib.hid (Below.andThen B0.out hb (Nat.le_refl _))
  obtain ⟨z0, z1, z2, z3⟩ := two_cells (r0.out.below hb r0.out.lt)
  clear hb HH
  go_wp2_with fail
  obtain ⟨q0, q1⟩ := two_set (x := .int .i64 0) (y := .int .i64 0) z0 z1
  refine bodyPost_ret (v := .tuple #[.agg #[.int .i64 0, .int .i64 0], .int .i64 31]) (by simp [results, Try.results50, go_sem, q0, q1]) rfl ⟨rfl, ?_⟩
  exact (T1.out.setCell (p := ⟨w.heap.size, 0, none⟩) (by simp) _).setCell (p := ⟨w.heap.size, 1, none⟩) (by simp) _
set_option maxHeartbeats 1000000 in
theorem Balance_arg (ps : List Pt) (a : Option Addr) (c : Nat) (pl : Int) (w : World) (hp : PtsA w a ps c) (hl : ps.length ≤ 1000000) (ht : twrB ps = true) (hpl : pl < 0 ∨ (ps.length : Int) ≤ pl) :
    Calls Try.prog 50 #[.slice a ps.length c, .int .i64 pl] w fun e w' => e = .returned (.tuple #[.agg #[.int .i64 0, .int .i64 0], .int .i64 1]) ∧ Below w.heap.size w w' := by
  obtain ⟨W0, hW0⟩ : ∃ W0, W0 = w.alloc (.cells #[.int .i64 0, .int .i64 0] 58) := ⟨_, rfl⟩
  have B0 := Lib.hid (show Below w.heap.size w W0 by rw [hW0]; exact (Below.refl _ _).alloc (Nat.le_refl _) _)
  have r0 := Lib.hid (show Row W0 w.heap.size 58 [.int .i64 0, .int .i64 0] by rw [hW0]; exact Row.new _ _ _)
  have HC := CheckTower_all ps a c W0 (hp.grow B0.out) hl
  rw [ht] at HC
  have HH := Lib.hid HC
  have hdd : decide (pl < 0) = true ∨ (decide (pl < 0) = false ∧ decide ((ps.length : Int) ≤ pl) = true) := by
    by_cases h : pl < 0
    · exact .inl (decide_eq_true h)
    · exact .inr ⟨decide_eq_false h, decide_eq_true (by omega)⟩
  clear HC hp
  go_enter Try.func50, Try.ntmps50
  go_wp2_with fail
  rw [← hW0]
  clear hW0
  refine HH.out.mono ?_
  rintro e w1 ⟨rfl, hb⟩
  have T1 := Lib.hid (Below.andThen B0.out hb (Nat.le_refl _))
  obtain ⟨z0, z1, z2, z3⟩ := two_cells (r0.out.below hb r0.out.lt)
  clear hb HH hpl
  rcases hdd with dd | ⟨dd, de⟩
  all_goals
    go_wp2_with fail
    obtain ⟨q0, q1⟩ := two_set (x := .int .i64 0) (y := .int .i64 0) z0 z1
    refine bodyPost_ret (v := .tuple #[.agg #[.int .i64 0, .int .i64 0], .int .i64 1]) (by simp [results, Try.results50, go_sem, q0, q1]) rfl ⟨rfl, ?_⟩
    exact (T1.out.setCell (p := ⟨w.heap.size, 0, none⟩) (by simp) _).setCell (p := ⟨w.heap.size, 1, none⟩) (by simp) _
set_option maxHeartbeats 1000000 in
theorem Balance_any (ps : List Pt) (b c pl : Nat) (w : World) (hp : PtsAt w b 0 ps) (hc : ps.length ≤ c) (ht : twrB ps = true) (hpl : pl < ps.length) :
    Calls Try.prog 50 #[.slice (some ⟨b, 0, none⟩) ps.length c, .int .i64 (pl : Int)] w fun e w' => e = .returned (.tuple #[.agg #[.int .i64 (balF (ps.drop pl)).1, .int .i64 (balF (ps.drop pl)).2], .int .i64 0]) ∧ Below w.heap.size w w' := by
  obtain ⟨h1, h12⟩ := twr_len ht
  have hbd' : ∀ i (h : i < (ps.drop pl).length), Bd 1000 (ps.drop pl)[i].1 ∧ 1 ≤ (ps.drop pl)[i].2 ∧ (ps.drop pl)[i].2 ≤ 100 := fun i h => by
    rw [List.getElem_drop]; exact twr_bd ht _
  have hl' : (ps.drop pl).length = ps.length - pl := List.length_drop ..
  have HBAL := Lib.hid (fun W (h : PtsAt W b 0 ps) => balance_any (ps.drop pl) b (pl * 2) (c - pl) W (h.drop pl) (by omega) (by omega) hbd')
  rw [hl'] at HBAL
  have s1 : ∀ w, (Instr.slice 22 (.slice (some ⟨b, 0, none⟩) ps.length c) (some (.int .i64 (pl : Int))) none none).run Try.prog w = .ok (.slice (some ⟨b, pl * 2, none⟩) (ps.length - pl) (c - pl)) w := fun w => slice_from2 b _ c pl hpl hc w
  obtain ⟨E1, E2, hE⟩ : ∃ E1 E2, balF (ps.drop pl) = (E1, E2) := ⟨_, _, rfl⟩
  obtain ⟨n1, n2⟩ := balF_bd (ps := ps.drop pl) (by omega) hbd'
  rw [hE] at HBAL n1 n2
  rw [hE]
  dsimp only at HBAL n1 n2
  dsimp only
  have w1' : wrap64 E1 = E1 := (IntWalk.i64_left _).symm.trans (i64_bd n1 (by omega))
  have w2' : wrap64 E2 = E2 := (IntWalk.i64_left _).symm.trans (i64_bd n2 (by omega))
  have d1 : decide ((pl : Int) < 0) = false := decide_eq_false (by omega)
  have d2 : decide ((ps.length : Int) ≤ (pl : Int)) = false := decide_eq_false (by omega)
  have HP := Lib.hid hp
  obtain ⟨W0, hW0⟩ : ∃ W0, W0 = w.alloc (.cells #[.int .i64 0, .int .i64 0] 58) := ⟨_, rfl⟩
  have B0 := Lib.hid (show Below w.heap.size w W0 by rw [hW0]; exact (Below.refl _ _).alloc (Nat.le_refl _) _)
  have r0 := Lib.hid (show Row W0 w.heap.size 58 [.int .i64 0, .int .i64 0] by rw [hW0]; exact Row.new _ _ _)
  have HC := CheckTower_any ps b 0 c W0 (hp.grow B0.out) (by omega)
  rw [ht] at HC
  have HH := Lib.hid HC
  clear HC hp hbd' hE n1 n2 ht hl'
  go_enter Try.func50, Try.ntmps50
  go_wp2_with fail
  rw [← hW0]
  clear hW0
  refine HH.out.mono ?_
  rintro e w1 ⟨rfl, hb⟩
  have T1 := Lib.hid (Below.andThen (Below.refl W0.heap.size W0) hb (Nat.le_refl _))
  clear hb HH
  go_wp2_with fail
  refine (HBAL.out _ ((HP.out.grow B0.out).grow T1.out)).mono ?_
  rintro e w2 ⟨rfl, hb⟩
  have T2 := Lib.hid (Below.andThen T1.out hb (Nat.le_refl _))
  have r2 := (r0.out.below T2.out r0.out.lt).below (B := w2.heap.size) ((Below.refl _ _).alloc (Nat.le_refl _) (.cells #[.int .i64 E1, .int .i64 E2] 88)) (Nat.lt_of_lt_of_le r0.out.lt T2.out.size)
  obtain ⟨z0, z1, z2, z3⟩ := two_cells r2
  clear hb HBAL r2
  go_wp2_with fail
  obtain ⟨q0, q1⟩ := two_set (x := .int .i64 E1) (y := .int .i64 E2) z0 z1
  refine bodyPost_ret (v := .tuple #[.agg #[.int .i64 E1, .int .i64 E2], .int .i64 0]) (by simp [results, Try.results50, go_sem, q0, q1]) rfl ⟨rfl, ?_⟩
  exact ((Below.al (Below.andThen B0.out T2.out (Nat.le_refl _)) (Nat.le_refl _) _).setCell (p := ⟨w.heap.size, 0, none⟩) (by simp) _).setCell (p := ⟨w.heap.size, 1, none⟩) (by simp) _
set_option maxHeartbeats 1000000 in
theorem Reach_any (ps : List Pt) (b c : Nat) (w : World) (hp : PtsAt w b 0 ps) (_hc : ps.length ≤ c) (ht : twrB ps = true) :
    Calls Try.prog 49 #[.slice (some ⟨b, 0, none⟩) ps.length c] w fun e w' => e = .returned (.tuple #[.int .i64 (rch ps ps.length), .int .i64 0]) ∧ Below w.heap.size w w' := by
  obtain ⟨h1, h12⟩ := twr_len ht
  have HCT := CheckTower_any ps b 0 c w hp (by omega)
  rw [ht] at HCT
  have HP := Lib.hid hp
  have HBD := Lib.hid (fun i (hi : i < ps.length) => twr_bd ht hi)
  have HCT' := Lib.hid HCT
  have dn : decide ((0 : Int) < (ps.length : Int)) = true := decide_eq_true (by omega)
  clear hp ht HCT
  go_enter Try.func49, Try.ntmps49
  go_wp2_with fail
  refine HCT'.out.mono ?_
  rintro e w1 ⟨rfl, hb1⟩
  have T1 := Lib.hid hb1
  clear hb1 HCT'
  have hp1 := HP.out.grow T1.out
  have x0 := hp1.x 0 (by omega)
  have y0 := hp1.y 0 (by omega)
  have b0 := HBD.out 0 (by omega)
  have r0 := Lib.hid (show rch ps 0 = ps[0].1 + ps[0].2 by unfold rch; rw [ptAt_lt (by omega)])
  generalize ps[0] = q at *
  obtain ⟨q1, q2⟩ := q
  dsimp only at x0 y0 b0 r0
  rw [show 0 + 0 * 2 = 0 from rfl] at x0
  rw [show 0 + 0 * 2 + 1 = 1 from rfl] at y0
  have k1 := Lib.hid (show Bd 100000000 q1 by unfold Bd at *; omega)
  have k2 := Lib.hid (show Bd 100000000 q2 by unfold Bd at *; omega)
  clear hp1 b0
  go_wp2_with fail
  refine (right_any q1 q2 w1 k1.out k2.out).mono ?_
  rintro e w2 ⟨rfl, hb⟩
  have T2 := Lib.hid (Below.andThen T1.out hb (Nat.le_refl _))
  clear hb x0 y0 k1 k2
  go_wp2_with fail
  go_loopw [5, 19] (fun x i wr => ∃ k : Nat, k ≤ ps.length ∧ i = .int .i64 (k : Int) ∧ Hid (x = .int .i64 (rch ps k)) ∧ Hid (Below w.heap.size w wr)) (fun _ i _ => ps.length - (intOf i).toNat)
  case atStart => exact ⟨0, by omega, rfl, Lib.hid (by rw [r0.out]), T2⟩
  case round =>
    obtain ⟨k, hk, rfl, HX, HB⟩ := hrel
    have hxv := HX.out
    by_cases hlt : k < ps.length
    · have hd : decide ((k : Int) < (ps.length : Int)) = true := decide_eq_true (by omega)
      have hp1 := HP.out.grow HB.out
      have hx := hp1.x k hlt
      have hy := hp1.y k hlt
      rw [Nat.zero_add] at hx hy
      have hb := HBD.out k hlt
      have hs : rch ps (k + 1) = max (rch ps k) (ps[k].1 + ps[k].2) := by rw [← ptAt_lt hlt]; rfl
      generalize ps[k] = q at *
      obtain ⟨q1, q2⟩ := q
      generalize rch ps k = m at *
      dsimp only at hx hy hb hs
      subst hxv
      have k1 := Lib.hid (show Bd 100000000 q1 by unfold Bd at *; omega)
      have k2 := Lib.hid (show Bd 100000000 q2 by unfold Bd at *; omega)
      have HS := Lib.hid hs
      clear hs hb HX hp1
      have T3 := Lib.hid (Below.al HB.out (Nat.le_refl _) (.cells #[.int .i64 q1, .int .i64 q2] 58))
      go_wp2_with fail
      refine (right_any q1 q2 _ k1.out k2.out).mono ?_
      rintro e w3 ⟨rfl, hb⟩
      have T4 := Lib.hid (Below.andThen T3.out hb (Nat.le_refl _))
      clear hb hx hy T3
      go_wp2_with fail
      all_goals
        go_roundw
        case rel =>
          refine ⟨k + 1, by omega, rfl, Lib.hid ?_, T4⟩
          rw [HS.out]
          first
            | rfl
            | (congr 1; omega)
        case measure => simp [intOf]; omega
    · have hd : decide ((k : Int) < (ps.length : Int)) = false := decide_eq_false (by omega)
      obtain rfl : k = ps.length := by omega
      subst hxv
      clear HX
      go_wp2_with fail
      exact bodyPost_ret (v := .tuple #[.int .i64 (rch ps ps.length), .int .i64 0]) (by simp [results, Try.results49, go_sem]) rfl ⟨rfl, HB.out⟩
end Go.Proofs.Ytlehddifcjklgaa
namespace Go.Proofs.Ytlehddifcjklgaa
open Go.RowKit Go.Shelf
attribute [local go_sem] Oper.semAt_some
set_option maxRecDepth 100000 in
set_option maxHeartbeats 1000000 in
theorem rStands_any (ps : List Pt) (b c : Nat) (w : World) (hp : PtsAt w b 0 ps) (ht : twrB ps = true) :
    Calls Try.prog 52 #[.slice (some ⟨b, 0, none⟩) ps.length c] w fun e w' => e = .returned (.tuple #[.int .i64 (standF ps).1, .bool (standF ps).2]) ∧ Below w.heap.size w w' := by
  obtain ⟨h1, h12⟩ := twr_len ht
  have HH := Lib.hid (fun W k (h : PtsAt W b 0 ps) (hk : k < ps.length) => rBalance_any ps b c k W h hk h12 (fun i hi => twr_bd ht hi))
  have HBD := Lib.hid (fun i (hi : i < ps.length) => twr_bd ht hi)
  have HBB := Lib.hid (fun k (hk : k < ps.length) => balF_bd (ps := ps.drop k) (by rw [List.length_drop]; omega) (fun i h => by rw [List.getElem_drop]; exact twr_bd ht _))
  have HP := Lib.hid hp
  obtain ⟨E1, E2, hE⟩ : ∃ E1 E2, standF ps = (E1, E2) := ⟨_, _, rfl⟩
  rw [hE]
  have HE := Lib.hid hE
  dsimp only
  clear hp ht hE
  go_enter Try.func52, Try.ntmps52
  go_wp2_with fail
  go_loopw [4] (fun i wr => ∃ k : Nat, k ≤ ps.length ∧ i = .int .i64 (k : Int) ∧ Hid (Below w.heap.size w wr) ∧ Hid (∀ j, j < k → heldB ps j = true)) (fun i _ => ps.length - (intOf i).toNat)
  case atStart => exact ⟨0, by omega, rfl, Lib.hid (Below.refl _ _), Lib.hid (fun j h => by omega)⟩
  case round =>
    obtain ⟨k, hk, rfl, HB, HK⟩ := hrel
    by_cases hlt : k < ps.length
    · have hd : decide ((k : Int) < (ps.length : Int)) = true := decide_eq_true (by omega)
      have hfin : heldB ps k = if k = 0 then !lessF (0, 1) (balF (ps.drop k)) else withinF (balF (ps.drop k)) ((ptAt ps (k - 1)).1, 1) ((ptAt ps (k - 1)).1 + (ptAt ps (k - 1)).2, 1) := rfl
      have hC := HH.out wr k (HP.out.grow HB.out) hlt
      obtain ⟨n1, n2⟩ := HBB.out k hlt
      obtain ⟨an, ad, ha⟩ : ∃ an ad, balF (ps.drop k) = (an, ad) := ⟨_, _, rfl⟩
      rw [ha] at hfin hC n1 n2
      dsimp only at hC n1 n2
      have FIN := Lib.hid hfin
      have HBAD := Lib.hid (show heldB ps k = false → E1 = (k : Int) ∧ E2 = false from fun hh => by
        have h := HE.out
        unfold standF at h
        rw [find_first (fun j hj => by simp [HK.out j hj]) (by simp [hh]) hlt] at h
        simp at h; exact ⟨h.1.symm, h.2⟩)
      have HGOOD := Lib.hid (show heldB ps k = true → ∀ j, j < k + 1 → heldB ps j = true from fun hh j hj => by
        by_cases h : j = k
        · subst h; exact hh
        · exact HK.out j (by omega))
      clear hfin ha
      go_wp2_with fail
      refine hC.mono ?_
      rintro e w3 ⟨rfl, hb3⟩
      have T3 := Lib.hid (Below.andThen HB.out hb3 (Nat.le_refl _))
      have T4 := Lib.hid (Below.al T3.out (Nat.le_refl _) (.cells #[.int .i64 an, .int .i64 ad] 58))
      obtain ⟨z0, z1, z2, z3⟩ := two_cells (show Row (w3.alloc (.cells #[.int .i64 an, .int .i64 ad] 58)) w3.heap.size 58 [.int .i64 an, .int .i64 ad] from Row.new _ _ _)
      clear hb3 hC HB
      have x0 := Kl.cell (w := w3.alloc (.cells #[.int .i64 an, .int .i64 ad] 58)) (b := w3.heap.size) (by simp) z0
      have x1 := Kl.cell (w := w3.alloc (.cells #[.int .i64 an, .int .i64 ad] 58)) (b := w3.heap.size) (by simp) z1
      clear z2 z3
      by_cases hk0 : k = 0
      · have d0 : ((k : Int) == 0) = true := by simp [hk0]
        have d5 : decide (0 < k) = false := decide_eq_false (by omega)
        by_cases hbad : 0 < an
        · have d1 : decide (0 < an) = true := decide_eq_true hbad
          have HF := Lib.hid (HBAD.out (by rw [FIN.out, if_pos hk0]; unfold lessF; simp; omega))
          clear hk0
          go_wp2_with fail
          refine wp_region_below (by kernel_rfl) (by kernel_rfl) ?_
          repeat (go_big_quiet_step (fail))
          refine wpQuiet_nil ?_
          rintro _ ⟨wq, rfl⟩
          have T5 := Lib.hid (Below.andThen T4.out wq.h (Nat.le_refl _))
          generalize wq.W = w5 at *
          go_wp2_with fail
          rw [HF.out.1, HF.out.2]
          exact bodyPost_ret (v := .tuple #[.int .i64 (k : Int), .bool false]) (by simp [results, Try.results52, go_sem]) rfl ⟨rfl, T5.out⟩
        · have d1 : decide (0 < an) = false := decide_eq_false hbad
          have HF := Lib.hid (HGOOD.out (by rw [FIN.out, if_pos hk0]; unfold lessF; simp; omega))
          clear hk0
          go_wp2_with fail
          refine wp_region_below (by kernel_rfl) (by kernel_rfl) ?_
          repeat (go_big_quiet_step (fail))
          refine wpQuiet_nil ?_
          rintro _ ⟨wq, rfl⟩
          have T5 := Lib.hid (Below.andThen T4.out wq.h (Nat.le_refl _))
          generalize wq.W = w5 at *
          go_wp2_with fail
          go_roundw
          case rel => exact ⟨k + 1, by omega, rfl, T5, HF⟩
          case measure => simp [intOf]; omega
      · have d0 : ((k : Int) == 0) = false := beq_eq_false_iff_ne.2 (by omega)
        have d5 : decide (0 < k) = true := decide_eq_true (by omega)
        have hk1 : k - 1 < ps.length := by omega
        have F2 := Lib.hid (show heldB ps k = withinF (an, ad) ((ptAt ps (k - 1)).1, 1) ((ptAt ps (k - 1)).1 + (ptAt ps (k - 1)).2, 1) by rw [FIN.out, if_neg hk0])
        have hpt : ptAt ps (k - 1) = ps[k - 1] := ptAt_lt hk1
        rw [hpt] at F2
        have hb := HBD.out (k - 1) hk1
        have hPV := HP.out.grow T4.out
        have hx := hPV.x _ hk1
        have hy := hPV.y _ hk1
        have hlt4 : b < (w3.alloc (.cells #[.int .i64 an, .int .i64 ad] 58)).heap.size := hPV.lt
        rw [Nat.zero_add] at hx hy
        have e1 : IntKind.i64.wrap ((k : Int) - 1) = ((k - 1 : Nat) : Int) := by rw [i64_of _ (by omega) (by omega)]; omega
        have e2 : (k : Int) - 1 = ((k - 1 : Nat) : Int) := by omega
        generalize ps[k - 1] = p at *
        obtain ⟨p1, p2⟩ := p
        dsimp only at hx hy hb F2
        have hp2 : Bd 100 p2 := by unfold Bd; omega
        have w1 : IntKind.i64.wrap (p1 * ad) = p1 * ad := i64_bd (hb.1.mul n2) (by omega)
        have w2 : IntKind.i64.wrap (p1 + p2) = p1 + p2 := i64_bd (hb.1.add hp2) (by omega)
        have w4 : IntKind.i64.wrap ((p1 + p2) * ad) = (p1 + p2) * ad := i64_bd ((hb.1.add hp2).mul n2) (by omega)
        have y0 := Kl.cell hlt4 hx
        have y1 := Kl.cell hlt4 hy
        clear hb hp2 hPV hpt hk0 hx hy hlt4 n1 n2
        generalize hkk : k - 1 = kk at *
        clear hkk
        by_cases hb1 : an < p1 * ad
        · have d1 : decide (an < p1 * ad) = true := decide_eq_true hb1
          have HF := Lib.hid (HBAD.out (by rw [F2.out]; unfold withinF lessF; simp; omega))
          go_wp2_with fail
          refine wp_region_below (by kernel_rfl) (by kernel_rfl) ?_
          repeat (go_big_quiet_step (fail))
          refine wpQuiet_nil ?_
          rintro _ ⟨wq, rfl⟩
          have T5 := Lib.hid (Below.andThen T4.out wq.h (Nat.le_refl _))
          generalize wq.W = w5 at *
          go_wp2_with fail
          rw [HF.out.1, HF.out.2]
          exact bodyPost_ret (v := .tuple #[.int .i64 (k : Int), .bool false]) (by simp [results, Try.results52, go_sem]) rfl ⟨rfl, T5.out⟩
        · have d1 : decide (an < p1 * ad) = false := decide_eq_false hb1
          by_cases hb2 : (p1 + p2) * ad < an
          · have d2 : decide ((p1 + p2) * ad < an) = true := decide_eq_true hb2
            have HF := Lib.hid (HBAD.out (by rw [F2.out]; unfold withinF lessF; simp; omega))
            go_wp2_with fail
            refine wp_region_below (by kernel_rfl) (by kernel_rfl) ?_
            repeat (go_big_quiet_step (fail))
            refine wpQuiet_nil ?_
            rintro _ ⟨wq, rfl⟩
            have T5 := Lib.hid (Below.andThen T4.out wq.h (Nat.le_refl _))
            generalize wq.W = w5 at *
            go_wp2_with fail
            rw [HF.out.1, HF.out.2]
            exact bodyPost_ret (v := .tuple #[.int .i64 (k : Int), .bool false]) (by simp [results, Try.results52, go_sem]) rfl ⟨rfl, T5.out⟩
          · have d2 : decide ((p1 + p2) * ad < an) = false := decide_eq_false hb2
            have HF := Lib.hid (HGOOD.out (by rw [F2.out]; unfold withinF lessF; simp; omega))
            go_wp2_with fail
            refine wp_region_below (by kernel_rfl) (by kernel_rfl) ?_
            repeat (go_big_quiet_step (fail))
            refine wpQuiet_nil ?_
            rintro _ ⟨wq, rfl⟩
            have T5 := Lib.hid (Below.andThen T4.out wq.h (Nat.le_refl _))
            generalize wq.W = w5 at *
            go_wp2_with fail
            go_roundw
            case rel => exact ⟨k + 1, by omega, rfl, T5, HF⟩
            case measure => simp [intOf]; omega
    · have hd : decide ((k : Int) < (ps.length : Int)) = false := decide_eq_false (by omega)
      obtain rfl : k = ps.length := by omega
      have hfin : E1 = 0 ∧ E2 = true := by
        have h := HE.out
        unfold standF at h
        rw [List.find?_eq_none.2 (fun j hj => by simp [HK.out j (List.mem_range.1 hj)])] at h
        simp at h; exact ⟨h.1.symm, h.2⟩
      have HF := Lib.hid hfin
      clear hfin
      go_wp2_with fail
      rw [HF.out.1, HF.out.2]
      exact bodyPost_ret (v := .tuple #[.int .i64 0, .bool true]) (by simp [results, Try.results52, go_sem]) rfl ⟨rfl, HB.out⟩
end Go.Proofs.Ytlehddifcjklgaa
namespace Go.Proofs.Ytlehddifcjklgaa
open Go.RowKit Go.Shelf
attribute [local go_sem] Oper.semAt_some
theorem info58 : (Try.prog.info? 58).map (fun i => (i.zero, i.size, i.bytes)) = some (some (.agg #[.int .i64 0, .int .i64 0]), 2, 16) := by kernel_rfl
theorem flat_length : ∀ ps : List Pt, (flat ps).length = ps.length * 2
  | [] => rfl
  | p :: ps => by simp [flat, flat_length ps]; omega
theorem flat_append : ∀ ps qs : List Pt, flat (ps ++ qs) = flat ps ++ flat qs
  | [], _ => rfl
  | p :: ps, qs => by simp [flat, flat_append ps qs]
theorem flat_one : ∀ (ps : List Pt), ∀ u ∈ flat ps, u.oneCell' = true
  | [], _, h => by cases h
  | p :: ps, u, h => by
    simp only [flat, List.mem_cons] at h
    rcases h with rfl | rfl | h
    · simp [Value.oneCell']
    · simp [Value.oneCell']
    · exact flat_one ps u h
theorem flat_at (ps : List Pt) (j : Nat) (u : Value) (h : (flat ps)[j]? = some u) : ∃ i, ∃ hi : i < ps.length, (j = i * 2 ∧ u = .int .i64 ps[i].1) ∨ (j = i * 2 + 1 ∧ u = .int .i64 ps[i].2) := by
  have hj : j < (flat ps).length := (List.getElem?_eq_some_iff.1 h).1
  rw [flat_length] at hj
  have hi : j / 2 < ps.length := by omega
  obtain ⟨h1, h2⟩ := flat_get ps (j / 2) hi
  refine ⟨j / 2, hi, ?_⟩
  rcases Nat.mod_two_eq_zero_or_one j with hm | hm
  · left
    have e : j = j / 2 * 2 := by omega
    rw [← e] at h1
    rw [h] at h1
    exact ⟨e, by simpa using h1⟩
  · right
    have e : j = j / 2 * 2 + 1 := by omega
    rw [← e] at h2
    rw [h] at h2
    exact ⟨e, by simpa using h2⟩
theorem pts_cells {W : World} {b o : Nat} {ps : List Pt} (h : PtsAt W b o ps) (n : Nat) : ∀ j u, (flat (ps.take n))[j]? = some u → W.cell? ((⟨b, o, none⟩ : Addr).add j) = some u := fun j u hu => by
  rw [Go.WideShapes.add_plain]
  obtain ⟨i, hi, h1⟩ := flat_at _ j u hu
  have hi' : i < ps.length := by rw [List.length_take] at hi; omega
  rw [List.getElem_take] at h1
  rcases h1 with ⟨rfl, rfl⟩ | ⟨rfl, rfl⟩
  · exact h.x i hi'
  · exact h.y i hi'
/-- a slice of the call's own, of points -/
def OwnP (W : World) (n₀ : Nat) (v : Value) (ps : List Pt) : Prop := W.ownsRow n₀ 58 2 v ps.length (flat ps)
theorem OwnP.open {W : World} {n₀ : Nat} {v : Value} {ps : List Pt} (h : OwnP W n₀ v ps) : ∃ a c, v = .slice a ps.length c ∧ (a = none ∧ c = 0 ∧ ps = [] ∨ ∃ g, n₀ ≤ g ∧ a = some ⟨g, 0, none⟩ ∧ PtsAt W g 0 ps ∧ ps.length ≤ c) := by
  have h0 := h
  rcases h.2 with ⟨rfl, hn⟩ | ⟨g, cap, cur, rfl, hg, hgb, hc, _⟩
  · have : ps = [] := List.eq_nil_of_length_eq_zero hn
    subst this
    exact ⟨none, 0, rfl, .inl ⟨rfl, rfl, rfl⟩⟩
  · have hlt := (Array.getElem?_eq_some_iff.1 hgb).1
    refine ⟨_, _, rfl, .inr ⟨g, hg, rfl, ⟨hlt, fun i hi => ?_, fun i hi => ?_⟩, hc⟩⟩
    · have := World.ownsRow.cells h0 (g := g) rfl (i * 2) _ (flat_get ps i hi).1
      rw [Go.WideShapes.add_plain] at this
      simpa using this
    · have := World.ownsRow.cells h0 (g := g) rfl (i * 2 + 1) _ (flat_get ps i hi).2
      rw [Go.WideShapes.add_plain] at this
      simpa using this
theorem append_nils (w : World) : ∀ ty, (Builtin.append_ #[22, 22] ty #[.slice none 0 0, .slice none 0 0]).run Try.prog w = .ok (.slice none 0 0) w := fun ty => by
  obtain ⟨i0, hi, hz0, hz1, hz2⟩ := info_parts info58
  simp [Builtin.append_, run_underlying Try.underlying22, sizeOf, typeInfo, hi, Builtin.lenOf, Builtin.firstCells]
theorem slice_upto (a : Option Addr) (n c m : Nat) (hm : m ≤ c) (w : World) :
    (Instr.slice 22 (.slice a n c) none (some (.int .i64 (m : Int))) none).run Try.prog w = .ok (.slice a m c) w := by
  have ht : Try.prog.underlying 22 = some (.slice (Try.prog.elem 22)) := by simp [Program.elem, Try.underlying22]
  have he : Try.prog.elem 22 = 58 := by simp [Program.elem, Try.underlying22]
  rw [run_slice_h w 22 _ _ _ ht .i64 _ (by omega) (by omega), he, size58]
  cases a with
  | none => simp [Result.andThen, sliced]
  | some a => simp [Result.andThen, sliced, Addr.add]
set_option maxRecDepth 100000 in
set_option maxHeartbeats 1000000 in
theorem own_any (ps : List Pt) (a : Option Addr) (c : Nat) (w : World) (hp : PtsA w a ps c) (hc : ps.length ≤ c) (hn : a = none → c = 0) (hl : ps.length ≤ maxLen) :
    Calls Try.prog 18 #[.slice a ps.length c] w fun e w' => ∃ v, e = .returned v ∧ OwnP w' w.heap.size v (ps.take 13) ∧ Below w.heap.size w w' := by
  obtain ⟨i0, hi, hz0, hz1, hz2⟩ := info_parts info58
  cases a with
  | none =>
    have hc0 := hn rfl
    subst hc0
    have hps : ps = [] := List.eq_nil_of_length_eq_zero (by omega)
    subst hps
    have s1 : ∀ w, (Instr.slice 22 (.slice none 0 0) none (some (.int .i64 0)) none).run Try.prog w = .ok (.slice none 0 0) w := fun w => slice_upto none 0 0 0 (by omega) w
    go_enter Try.func18, Try.ntmps18
    go_wp2_with fail
    go_ret
    exact ⟨_, rfl, World.ownsRow_nil _ _ _ _, Below.refl _ _⟩
  | some a =>
  have hnews : ∀ j u, (flat (ps.take 13))[j]? = some u → w.cell? (a.add j) = some u := by
    rcases hp with rfl | ⟨b, o, he, hp, _⟩
    · intro j u h; simp [flat] at h
    · cases he
      exact pts_cells hp 13
  by_cases h13 : ps.length ≤ 13
  · have s1 : ∀ w, (Instr.slice 22 (.slice (some a) ps.length c) none (some (.int .i64 (ps.length : Int))) none).run Try.prog w = .ok (.slice (some a) ps.length c) w := fun w => slice_upto (some a) _ c _ (by omega) w
    go_enter Try.func18, Try.ntmps18
    go_wp2_with (at_builtin; refine wpList_append_own_at _ rfl _ _ 22 rfl w.heap.size 58 i0 (.agg #[.int .i64 0, .int .i64 0]) 2 16 Try.underlying22 hi hz0 hz1 hz2 rfl (by decide) _ _ _ rfl (World.ownsRow_nil _ _ _ _) a ps.length c (flat (ps.take 13)) rfl (by rw [flat_length, List.length_take]; congr 1; omega) hnews (flat_one _) (by unfold maxLen; omega) (by omega) (Nat.le_refl _) ?_; intro v' w2 hown' hgrow hnil hat; have HR := Lib.hid hown'; have HG : Hid (w.grownBy w2 (Value.ownBlock (.slice none 0 0))) := Lib.hid hgrow; clear hown' hgrow hnil hat)
    go_ret
    have h1 := HR.out
    rw [List.nil_append, Nat.zero_add] at h1
    refine ⟨_, rfl, ?_, (Below.refl w.heap.size w).grown HG.out (Nat.le_refl _) (fun r e => by cases e)⟩
    unfold OwnP
    rw [List.length_take, show min 13 ps.length = ps.length by omega]
    exact h1
  · have s1 : ∀ w, (Instr.slice 22 (.slice (some a) ps.length c) none (some (.int .i64 13)) none).run Try.prog w = .ok (.slice (some a) 13 c) w := fun w => slice_upto (some a) _ c 13 (by omega) w
    go_enter Try.func18, Try.ntmps18
    go_wp2_with (at_builtin; refine wpList_append_own_at _ rfl _ _ 22 rfl w.heap.size 58 i0 (.agg #[.int .i64 0, .int .i64 0]) 2 16 Try.underlying22 hi hz0 hz1 hz2 rfl (by decide) _ _ _ rfl (World.ownsRow_nil _ _ _ _) a 13 c (flat (ps.take 13)) rfl (by rw [flat_length, List.length_take]; congr 1; omega) hnews (flat_one _) (by unfold maxLen; omega) (by omega) (Nat.le_refl _) ?_; intro v' w2 hown' hgrow hnil hat; have HR := Lib.hid hown'; have HG : Hid (w.grownBy w2 (Value.ownBlock (.slice none 0 0))) := Lib.hid hgrow; clear hown' hgrow hnil hat)
    go_ret
    have h1 := HR.out
    rw [List.nil_append, Nat.zero_add] at h1
    refine ⟨_, rfl, ?_, (Below.refl w.heap.size w).grown HG.out (Nat.le_refl _) (fun r e => by cases e)⟩
    unfold OwnP
    rw [List.length_take, show min 13 ps.length = 13 by omega]
    exact h1
end Go.Proofs.Ytlehddifcjklgaa
namespace Go.Proofs.Ytlehddifcjklgaa
open Go.RowKit Go.Shelf
attribute [local go_sem] Oper.semAt_some
section
variable {P : Program} {w : World}
theorem step_append_own {ops : Array Oper} {o : Oper} {a : Act} {K : Act → World → Prop} {Q : Exit → Act → World → Prop} {E : Prop} (hgd : o.guard = none) (s x : Operand) (t : TypeId) (ho : o.op = .call { callee := .builtin .append, args := #[s, x], argTypes := #[t, t] })
    (base : Nat) (e : TypeId) (i : TypeInfo) (z : Value) (size bytes : Nat) (ht : P.underlying t = some (.slice e)) (hi : P.info? e = some i) (hz : i.zero = some z)
    (hsize : i.size = size) (hby : i.bytes = bytes) (hzs : z.cells.size = size) (hsz : 0 < size)
    (v : Value) (n : Nat) (xs : List Value) (hs : a.eval s = v) (hown : w.ownsRow base e size v n xs)
    (ad : Addr) (m c : Nat) (news : List Value) (hx : a.eval x = .slice (some ad) m c) (hl : news.length = m * size) (hnews : ∀ j u, news[j]? = some u → w.cell? (ad.add j) = some u) (h1 : ∀ u ∈ news, u.oneCell' = true)
    (h63 : n + m ≤ maxLen) (hbytes : (n + m) * bytes ≤ 140737488355328) (hbase : base ≤ w.heap.size)
    (h : ∀ v' w', w'.ownsRow base e size v' (n + m) (xs ++ news) → w.grownBy w' v.ownBlock → (v'.ownBlock = v.ownBlock ∨ v'.ownBlock = some w.heap.size) → K (a.put o.dst v') w') :
    if Region.wanted o (yielded ops a.tmps) = true then Oper.wp P o a w K Q else E := by
  have hw : Region.wanted o (yielded ops a.tmps) = true := by simp [Region.wanted, hgd]
  rw [if_pos hw]
  obtain ⟨v', w', hr, h2, h3, _, h5⟩ := run_append_own_at (P := P) w base t o.type e i z size bytes ht hi hz hsize hby hzs hsz v n xs hown ad m c news hl hnews h1 h63 hbytes hbase
  unfold Oper.wp execOp
  simp only [ho, resolve, invoke, builtin, Sem.run_bind, Sem.run_pure, Result.andThen_ok, List.map_toArray, List.map_cons, List.map_nil, hs, hx, hr]
  exact h v' w' h2 h3 h5
end
theorem own_belowP {n₀ e s : Nat} {W w2 : World} {k : Nat} {v : Value} {xs : List Value} (h : W.ownsRow n₀ e s v k xs) {w : World} (hw : n₀ = w.heap.size) (_hb : Below w.heap.size w W) {W1 : World} (h1 : Below w.heap.size w W1) (hg : W1.grownBy w2 v.ownBlock) : Below w.heap.size w w2 :=
  h1.grown hg (h1.size) (fun r e => by
    rcases h.2 with ⟨rfl, _⟩ | ⟨g', cap, cur, rfl, h1, _⟩
    · simp [Value.ownBlock] at e
    · simp [Value.ownBlock] at e; omega)
theorem cell_two_at (w : World) (x y : Value) (t : TypeId) (n : Nat) (hn : w.heap.size = n) : ∀ j u, [x, y][j]? = some u → (w.alloc (.cells #[x, y] t)).cell? ((⟨n, 0, none⟩ : Addr).add j) = some u := by
  intro j u hu
  subst hn
  rw [Go.WideShapes.add_plain, cell_al, if_pos rfl]
  rcases j with _ | _ | j
  · simpa using hu
  · simpa using hu
  · simp at hu
theorem u64_wrap (x : Int) : IntKind.u64.wrap x = x % 18446744073709551616 := by
  simp [IntKind.wrap, IntKind.signed, IntKind.bits]
theorem w64_of {x : Int} (h : -9223372036854775808 ≤ x) (h' : x ≤ 9223372036854775807) : wrap64 x = x := by unfold wrap64; omega
def pk (p : Pt) : Pt := (p.1 % 18446744073709551616 % 2001 - 1000, 1 + p.2 % 18446744073709551616 % 100)
theorem pk_raw (q1 q2 : Int) : pk (q1, q2) = ((IntKind.i64.wrap (IntKind.i64.wrap ((IntKind.u64.wrap q1).tmod 2001) - 1000)), (IntKind.i64.wrap (1 + IntKind.i64.wrap ((IntKind.u64.wrap q2).tmod 100)))) := by
  have t1 : (IntKind.u64.wrap q1).tmod 2001 = q1 % 18446744073709551616 % 2001 := by rw [u64_wrap]; exact Int.tmod_eq_emod_of_nonneg (by omega)
  have t2 : (IntKind.u64.wrap q2).tmod 100 = q2 % 18446744073709551616 % 100 := by rw [u64_wrap]; exact Int.tmod_eq_emod_of_nonneg (by omega)
  rw [t1, t2, i64_of (q1 % 18446744073709551616 % 2001) (by omega) (by omega), i64_of (q2 % 18446744073709551616 % 100) (by omega) (by omega), i64_of (q1 % 18446744073709551616 % 2001 - 1000) (by omega) (by omega), i64_of (1 + q2 % 18446744073709551616 % 100) (by omega) (by omega)]
  rfl
def planksF (ps : List Pt) : List Pt := if ps = [] then [(-2, 4)] else (ps.take 12).map pk
set_option maxRecDepth 100000 in
set_option maxHeartbeats 1000000 in
theorem planks_any (ps : List Pt) (a : Option Addr) (c : Nat) (w : World) (hp : PtsA w a ps c) (hl : ps.length ≤ maxLen) (hz : ∀ q ∈ ps, InI q.1 ∧ InI q.2) :
    Calls Try.prog 51 #[.slice a ps.length c] w fun e w' => ∃ v, e = .returned v ∧ OwnP w' w.heap.size v (planksF ps) ∧ Below w.heap.size w w' := by
  obtain ⟨i0, hi, hz0, hz1, hz2⟩ := info_parts info58
  have HP := Lib.hid hp
  have HZ := Lib.hid hz
  clear hp hz
  have hl63 : (ps.length : Int) ≤ 9223372036854775807 := by unfold maxLen at hl; omega
  go_enter Try.func51, Try.ntmps51
  go_wp2_with fail
  go_loopw [3, 4] (fun v i wr => ∃ k : Nat, k ≤ ps.length ∧ k ≤ 12 ∧ i = .int .i64 (k : Int) ∧ Hid (OwnP wr w.heap.size v ((ps.take k).map pk)) ∧ Hid (Below w.heap.size w wr)) (fun _ i _ => 12 - (intOf i).toNat)
  case atStart => exact ⟨0, by omega, by omega, rfl, Lib.hid (World.ownsRow_nil _ _ _ _), Lib.hid (Below.refl _ _)⟩
  case round =>
    obtain ⟨k, hk, hk12, rfl, HR, HB⟩ := hrel
    by_cases hlt : k < ps.length
    · have hd : decide ((k : Int) < (ps.length : Int)) = true := decide_eq_true (by omega)
      by_cases h12 : k < 12
      · have hd2 : decide ((k : Int) < 12) = true := decide_eq_true (by omega)
        obtain ⟨b, o, rfl, hpp, hcc⟩ : ∃ b o, a = some ⟨b, o, none⟩ ∧ PtsAt w b o ps ∧ ps.length ≤ c := by
          rcases HP.out with h | h
          · subst h; simp at hlt
          · exact h
        have hx := hpp.x k hlt
        have hy := hpp.y k hlt
        have hzz := HZ.out _ (List.getElem_mem hlt)
        have HS := Lib.hid (show (ps.take (k + 1)).map pk = (ps.take k).map pk ++ [pk ps[k]] by rw [List.take_succ_eq_append_getElem hlt, List.map_append]; rfl)
        generalize ps[k] = q at *
        obtain ⟨q1, q2⟩ := q
        dsimp only at hx hy hzz
        have hpl := hpp.lt
        clear hpp
        have hpk := pk_raw q1 q2
        rw [hpk] at HS
        clear hpk
        have SS := Lib.hid (show ∀ W, Below w.heap.size w W → W.cell? ⟨b, o + k * 2, none⟩ = some (.int .i64 q1) ∧ W.cell? ⟨b, o + k * 2 + 1, none⟩ = some (.int .i64 q2) from fun W h => ⟨below_at h hpl hx, below_at h hpl hy⟩)
        have BD := Lib.hid (show Below w.heap.size w wr.drew from HB.out.drew)
        have HRD := Lib.hid (own_grow HR.out ((Below.refl wr.heap.size wr).drew))
        clear hx hy hzz
        go_wp2_with fail
        go_region_held3 (fun W => W.cell? ⟨b, o + k * 2, none⟩ = some (.int .i64 q1) ∧ W.cell? ⟨b, o + k * 2 + 1, none⟩ = some (.int .i64 q2))
          (first
            | exact SS.out _ BD.out
            | exact SS.out _ (Below.al BD.out (Nat.le_refl _) _)
            | exact SS.out _ B2.out)
          (first
            | (refine step_append_own rfl _ _ 22 rfl w.heap.size 58 i0 (.agg #[.int .i64 0, .int .i64 0]) 2 16 Try.underlying22 hi hz0 hz1 hz2 rfl (by decide) _ _ _ rfl (World.ownsRow.alloc HRD.out _) _ 1 1 [.int .i64 (IntKind.i64.wrap (IntKind.i64.wrap ((IntKind.u64.wrap q1).tmod 2001) - 1000)), .int .i64 (IntKind.i64.wrap (1 + IntKind.i64.wrap ((IntKind.u64.wrap q2).tmod 100)))] rfl rfl (cell_two_at _ _ _ _ _ rfl) (by simp [Value.oneCell']) (by rw [List.length_map, List.length_take]; unfold maxLen; omega) (by rw [List.length_map, List.length_take]; omega) (Nat.le_trans BD.out.size (by simp)) ?_; intro v' w2 hown' hgrow hat; have HR2 := Lib.hid hown'; have B2 := Lib.hid (own_belowP HRD.out rfl BD.out (Below.al BD.out (Nat.le_refl _) _) hgrow); clear hown' hgrow hat))
        clear SS BD HRD
        go_wp2_with fail
        go_roundw
        case rel => exact ⟨k + 1, by omega, by omega, rfl, Lib.hid (by rw [HS.out]; have h := HR2.out; unfold OwnP; rw [flat_append, List.length_append]; exact h), B2⟩
        case measure => simp [intOf]; omega
      · have hd2 : decide ((k : Int) < 12) = false := decide_eq_false (by omega)
        obtain rfl : k = 12 := by omega
        have hps : ps ≠ [] := fun h => by subst h; simp at hlt
        have hll : ((ps.take 12).map pk).length = 12 := by rw [List.length_map, List.length_take]; omega
        obtain ⟨a2, c2, rfl, _⟩ := HR.out.open
        rw [hll]
        clear hd
        have HR' := Lib.hid (show OwnP wr w.heap.size (.slice a2 12 c2) (planksF ps) by have h := HR.out; rw [hll] at h; unfold planksF; rw [if_neg hps]; exact h)
        clear HR
        go_wp2_with fail
        go_ret
        exact ⟨_, rfl, HR'.out, HB.out⟩
    · have hd : decide ((k : Int) < (ps.length : Int)) = false := decide_eq_false (by omega)
      obtain rfl : k = ps.length := by omega
      obtain ⟨a2, c2, rfl, _⟩ := HR.out.open
      have hll : ((ps.take ps.length).map pk).length = ps.length := by rw [List.length_map, List.length_take]; omega
      rw [hll]
      by_cases h0 : ps = []
      · have d3 : ((ps.length : Int) == 0) = true := by simp [h0]
        have hF := Lib.hid (show planksF ps = [(-2, 4)] by unfold planksF; rw [if_pos h0])
        clear h0 HR
        go_wp2_with fail
        go_ret
        refine ⟨_, rfl, ?_, Below.al HB.out (Nat.le_refl _) _⟩
        rw [hF.out]
        refine ⟨rfl, .inr ⟨_, 1, _, rfl, HB.out.size, (Row.new wr 58 (flat [(-2, 4)])), Nat.le_refl _, by unfold maxLen; omega, rfl, rfl⟩⟩
      · have d3 : ((ps.length : Int) == 0) = false := by simpa using h0
        have HR' := Lib.hid (show OwnP wr w.heap.size (.slice a2 ps.length c2) (planksF ps) by
          have h := HR.out; rw [hll] at h; unfold planksF; rw [if_neg h0, List.take_of_length_le hk12]
          rw [List.take_length] at h; exact h)
        clear HR h0
        go_wp2_with fail
        go_ret
        exact ⟨_, rfl, HR'.out, HB.out⟩
end Go.Proofs.Ytlehddifcjklgaa
namespace Go.Proofs.Ytlehddifcjklgaa
open Go.RowKit Go.Shelf
attribute [local go_sem] Oper.semAt_some
theorem eq58 (a b : Int) (W : World) : (Op.equalIn 10000 58 (.agg #[.int .i64 a, .int .i64 b]) (.agg #[.int .i64 a, .int .i64 b])).run Try.prog W = .ok true W := by
  have info3' : ∃ i, Try.prog.info? 3 = some i := by
    obtain ⟨i0, hi, _⟩ := info_parts info3
    exact ⟨i0, hi⟩
  obtain ⟨i, hi⟩ := info3'
  refine (run_equalIn_array (P := Try.prog) W 9999 _ _ Try.underlying58 hi).trans ?_
  rw [cells3]
  have p0 : ∀ W, (part 3 #[.int .i64 a, .int .i64 b] 0).run Try.prog W = .ok (.int .i64 a) W := fun W => by kernel_rfl
  have p1 : ∀ W, (part 3 #[.int .i64 a, .int .i64 b] 1).run Try.prog W = .ok (.int .i64 b) W := fun W => by kernel_rfl
  have pe : ∀ (a b : Int) (W : World), (Op.equalIn 9999 3 (.int .i64 a) (.int .i64 b)).run Try.prog W = .ok (a == b) W := fun a b W => by
    first
      | kernel_rfl
      | simp [Op.equalIn, go_sem]
  simp only [List.range, List.range.loop, Op.eqItems, Sem.run_bind, Nat.zero_mul, Nat.one_mul, p0, p1, Result.andThen_ok, pe, beq_self_eq_true, Bool.not_true, Bool.false_eq_true, if_false, Sem.run_pure]
theorem OwnP.pts {W : World} {n₀ : Nat} {a : Option Addr} {c : Nat} {ps : List Pt} (h : OwnP W n₀ (.slice a ps.length c) ps) : PtsA W a ps c := by
  obtain ⟨a', c', he, h⟩ := h.open
  cases he
  rcases h with ⟨_, _, h⟩ | ⟨g, _, h1, h2, h3⟩
  · exact .inl h
  · exact .inr ⟨g, 0, h1, h2, h3⟩
set_option maxRecDepth 100000 in
set_option maxHeartbeats 1000000 in
theorem HullTowers_any (ps : List Pt) (a : Option Addr) (c : Nat) (pl : Int) (w : World) (hp : PtsA w a ps c) (hc : ps.length ≤ c) (hn : a = none → c = 0) (hl : ps.length ≤ maxLen) (_hz : ∀ q ∈ ps, InI q.1 ∧ InI q.2) (_hi : InI pl) :
    Calls Try.prog 9 #[.slice a ps.length c, .int .i64 pl] w fun e w' => e = .returned (.bool true) ∧ Below w.heap.size w w' := by
  have hown := own_any ps a c w hp hc hn hl
  have h13 : (ps.take 13).length ≤ 13 := by rw [List.length_take]; omega
  generalize ps.take 13 = qs at *
  clear hp hc hn hl
  go_enter Try.func9, Try.ntmps9
  go_wp2_with fail
  refine hown.mono ?_
  rintro e w1 ⟨v, rfl, ho, hb⟩
  obtain ⟨a2, c2, rfl, _⟩ := ho.open
  have HP1 := Lib.hid ho.pts
  have T1 := Lib.hid hb
  clear hown ho hb
  have HT := rTower_any qs a2 c2 w1 HP1.out (by omega)
  cases ht : twrB qs
  · rw [ht] at HT
    have HTT := Lib.hid ht
    clear ht
    go_wp2_with fail
    refine HT.mono ?_
    rintro e w2 ⟨rfl, hb⟩
    have HP2 := Lib.hid (HP1.out.grow hb)
    have T2 := Lib.hid (Below.andThen T1.out hb (Nat.le_refl _))
    have HC := CheckTower_all qs a2 c2 w2 HP2.out (by omega)
    rw [HTT.out] at HC
    clear hb HT HP1 T1
    go_wp2_with fail
    refine HC.mono ?_
    rintro e w3 ⟨rfl, hb⟩
    have HP3 := Lib.hid (HP2.out.grow hb)
    have T3 := Lib.hid (Below.andThen T2.out hb (Nat.le_refl _))
    clear hb HC HP2 T2
    go_wp2_with fail
    refine (Stands_bad qs a2 c2 w3 HP3.out (by omega) HTT.out).mono ?_
    rintro e w4 ⟨rfl, hb⟩
    have HP4 := Lib.hid (HP3.out.grow hb)
    have T4 := Lib.hid (Below.andThen T3.out hb (Nat.le_refl _))
    clear hb HP3 T3
    go_wp2_with fail
    refine (Reach_bad qs a2 c2 w4 HP4.out (by omega) HTT.out).mono ?_
    rintro e w5 ⟨rfl, hb⟩
    have HP5 := Lib.hid (HP4.out.grow hb)
    have T5 := Lib.hid (Below.andThen T4.out hb (Nat.le_refl _))
    clear hb HP4 T4
    have HC := CheckTower_all qs a2 c2 w5 HP5.out (by omega)
    rw [HTT.out] at HC
    go_wp2_with fail
    refine HC.mono ?_
    rintro e w6 ⟨rfl, hb⟩
    have HP6 := Lib.hid (HP5.out.grow hb)
    have T6 := Lib.hid (Below.andThen T5.out hb (Nat.le_refl _))
    clear hb HC HP5 T5
    go_wp2_with fail
    refine (Balance_bad qs a2 c2 pl w6 HP6.out (by omega) HTT.out).mono ?_
    rintro e w7 ⟨rfl, hb⟩
    have T7 := Lib.hid (Below.al (Below.andThen T6.out hb (Nat.le_refl _)) (Nat.le_refl _) (.cells #[.int .i64 0, .int .i64 0] 58))
    have E0 := eq58 0 0
    clear hb HP6 T6
    go_wp2_with fail
    refine (awake_any _).mono ?_
    rintro e w8 ⟨rfl, hb⟩
    have T8 := Lib.hid (Below.andThen T7.out hb (Nat.le_refl _))
    clear hb T7
    go_wp2_with fail
    go_ret
    exact ⟨rfl, T8.out⟩
  · rw [ht] at HT
    obtain ⟨h1, h12⟩ := twr_len ht
    have HTT := Lib.hid ht
    clear ht
    go_wp2_with fail
    refine HT.mono ?_
    rintro e w2 ⟨rfl, hb⟩
    have HP2 := Lib.hid (HP1.out.grow hb)
    have T2 := Lib.hid (Below.andThen T1.out hb (Nat.le_refl _))
    have HC := CheckTower_all qs a2 c2 w2 HP2.out (by omega)
    rw [HTT.out] at HC
    clear hb HT HP1 T1
    have hdd : (decide (0 ≤ pl) = true ∧ decide (pl < (qs.length : Int)) = true) ∨ ((pl < 0 ∨ (qs.length : Int) ≤ pl) ∧ (decide (0 ≤ pl) = false ∨ (decide (0 ≤ pl) = true ∧ decide (pl < (qs.length : Int)) = false))) := by
      by_cases h : 0 ≤ pl
      · by_cases h' : pl < qs.length
        · exact .inl ⟨decide_eq_true h, decide_eq_true h'⟩
        · exact .inr ⟨.inr (by omega), .inr ⟨decide_eq_true h, decide_eq_false h'⟩⟩
      · exact .inr ⟨.inl (by omega), .inl (decide_eq_false h)⟩
    go_wp2_with fail
    refine HC.mono ?_
    rintro e w3 ⟨rfl, hb⟩
    have HP3 := Lib.hid (HP2.out.grow hb)
    have T3 := Lib.hid (Below.andThen T2.out hb (Nat.le_refl _))
    clear hb HC HP2 T2
    rcases hdd with ⟨dd, de⟩ | ⟨hpl, hd⟩
    · go_wp2_with fail
      refine (awake_any _).mono ?_
      rintro e w8 ⟨rfl, hb⟩
      have T8 := Lib.hid (Below.andThen T3.out hb (Nat.le_refl _))
      clear hb T3
      go_wp2_with fail
      go_ret
      exact ⟨rfl, T8.out⟩
    · have HBA := Lib.hid (Balance_arg qs a2 c2 pl w3 HP3.out (by omega) HTT.out hpl)
      clear hpl
      rcases hd with dd | ⟨dd, de⟩
      all_goals
        go_wp2_with fail
        refine HBA.out.mono ?_
        rintro e w7 ⟨rfl, hb⟩
        have T7 := Lib.hid (Below.al (Below.andThen T3.out hb (Nat.le_refl _)) (Nat.le_refl _) (.cells #[.int .i64 0, .int .i64 0] 58))
        have E0 := eq58 0 0
        clear hb HP3 T3
        go_wp2_with fail
        refine (awake_any _).mono ?_
        rintro e w8 ⟨rfl, hb⟩
        have T8 := Lib.hid (Below.andThen T7.out hb (Nat.le_refl _))
        clear hb T7
        go_wp2_with fail
        go_ret
        exact ⟨rfl, T8.out⟩
end Go.Proofs.Ytlehddifcjklgaa
namespace Go.Proofs.Ytlehddifcjklgaa
open Go.RowKit Go.Shelf
attribute [local go_sem] Oper.semAt_some
/-- a slice of the call's own, with its block named -/
def OwnG (W : World) (n₀ g c : Nat) (ps : List Pt) : Prop := OwnP W n₀ (.slice (some ⟨g, 0, none⟩) ps.length c) ps
theorem OwnG.pts {W : World} {n₀ g c : Nat} {ps : List Pt} (h : OwnG W n₀ g c ps) (h1 : ps ≠ []) : PtsAt W g 0 ps ∧ ps.length ≤ c ∧ n₀ ≤ g := by
  obtain ⟨a', c', he, h⟩ := OwnP.open h
  cases he
  rcases h with ⟨_, _, h⟩ | ⟨g', hg, h1, h2, h3⟩
  · exact absurd h h1
  · cases h1; exact ⟨h2, h3, hg⟩
theorem OwnG.heap {W : World} {n₀ g c : Nat} {ps : List Pt} (h : OwnG W n₀ g c ps) : ∃ cur : Array Value, W.heap[g]? = some (.cells cur 58 (0, 0)) ∧ n₀ ≤ g ∧ ps.length ≤ c ∧ c ≤ maxLen ∧ cur.size = c * 2 ∧ cur.toList.take (ps.length * 2) = flat ps := by
  rcases h.2 with ⟨h, _⟩ | ⟨g', cap, cur, he, hg, hgb, hc, h5, h6, h7⟩
  · cases h
  · cases he; exact ⟨cur, hgb, hg, hc, h5, h6, h7⟩
theorem OwnG.frozen {W : World} {n₀ g c : Nat} {ps : List Pt} (h : OwnG W n₀ g c ps) (i : Nat) : W.frozen? ⟨g, i, none⟩ = false := by
  obtain ⟨cur, hh, _⟩ := h.heap
  simp [World.frozen?, hh]
theorem flat_set : ∀ (ps : List Pt) (i : Nat) (p : Pt), flat (ps.set i p) = ((flat ps).set (i * 2) (.int .i64 p.1)).set (i * 2 + 1) (.int .i64 p.2)
  | [], _, _ => rfl
  | q :: ps, 0, p => by simp [flat]
  | q :: ps, i + 1, p => by
    rw [List.set_cons_succ, flat, flat_set ps i p, show (i + 1) * 2 = i * 2 + 1 + 1 by omega]
    simp [flat]
theorem setCell_heap (W : World) (g i : Nat) (v : Value) (cur : Array Value) (h : W.heap[g]? = some (.cells cur 58 (0, 0))) : (W.setCell ⟨g, i, none⟩ v).heap[g]? = some (.cells (cur.setIfInBounds i v) 58 (0, 0)) := by
  have hlt := (Array.getElem?_eq_some_iff.1 h).1
  obtain ⟨_, he⟩ := Array.getElem?_eq_some_iff.1 h
  simp [World.setCell, hlt, Array.getElem_modify, he]
theorem OwnG.set {W : World} {n₀ g c : Nat} {ps : List Pt} (h : OwnG W n₀ g c ps) (i : Nat) (_hi : i < ps.length) (x y : Int) :
    OwnG ((W.setCell ⟨g, i * 2, none⟩ (.int .i64 x)).setCell ⟨g, i * 2 + 1, none⟩ (.int .i64 y)) n₀ g c (ps.set i (x, y)) := by
  obtain ⟨cur, hh, h1, h2, h3, h4, h5⟩ := h.heap
  have hs := setCell_heap _ g (i * 2 + 1) (.int .i64 y) _ (setCell_heap W g (i * 2) (.int .i64 x) cur hh)
  refine ⟨by rw [flat_length], .inr ⟨g, c, _, rfl, h1, hs, by rw [List.length_set]; exact h2, h3, by simp [h4], ?_⟩⟩
  rw [flat_set, ← h5, List.length_set]
  simp only [Array.toList_setIfInBounds]
  rw [List.take_set, List.take_set]
theorem moved_ok {N k : Nat} {qs : List Pt} (hN : qs.length = N) (hN12 : N ≤ 12) (hI : ∀ i (h : i < qs.length), Bd 1000 qs[i].1 ∧ 1 ≤ qs[i].2 ∧ qs[i].2 ≤ 100) (hJ : ∀ i (h : i < qs.length), i < k → Bd (100 + 4 * (i + 1)) qs[i].1) (hk : k < N) {x y : Int} (hx : Bd (100 + 4 * (k + 1)) x) (hy : 1 ≤ y ∧ y ≤ 100) :
    (qs.set k (x, y)).length = N ∧ (∀ i (h : i < (qs.set k (x, y)).length), Bd 1000 (qs.set k (x, y))[i].1 ∧ 1 ≤ (qs.set k (x, y))[i].2 ∧ (qs.set k (x, y))[i].2 ≤ 100) ∧ (∀ i (h : i < (qs.set k (x, y)).length), i < k + 1 → Bd (100 + 4 * (i + 1)) (qs.set k (x, y))[i].1) := by
  refine ⟨by rw [List.length_set]; exact hN, fun i h => ?_, fun i h hik => ?_⟩
  · rw [List.getElem_set]
    split
    · refine ⟨?_, hy⟩
      show Bd 1000 x
      unfold Bd at *; omega
    · exact hI i _
  · rw [List.getElem_set]
    split
    · subst k; exact hx
    · exact hJ i _ (by omega)
theorem twr_of {qs : List Pt} (h1 : 1 ≤ qs.length) (h2 : qs.length ≤ 12) (h : ∀ i (h : i < qs.length), Bd 1000 qs[i].1 ∧ 1 ≤ qs[i].2 ∧ qs[i].2 ≤ 100) : twrB qs = true := by
  unfold twrB
  simp only [Bool.and_eq_true, decide_eq_true_eq, List.all_eq_true]
  refine ⟨⟨h1, h2⟩, fun q hq => ?_⟩
  obtain ⟨i, hi, rfl⟩ := List.getElem_of_mem hq
  have := h i hi
  unfold Bd at this
  exact plank_true (p1 := qs[i].1) (p2 := qs[i].2) (by omega) (by omega) (by omega) (by omega)
theorem planksF_ok (ps : List Pt) : 1 ≤ (planksF ps).length ∧ twrB (planksF ps) = true := by
  unfold planksF
  split
  · exact ⟨by simp, by kernel_rfl⟩
  · rename_i h
    have hl : 1 ≤ ps.length := by
      rcases ps with _ | ⟨p, ps⟩
      · exact absurd rfl h
      · simp
    have hl2 : ((ps.take 12).map pk).length = min 12 ps.length := by rw [List.length_map, List.length_take]
    refine ⟨by rw [hl2]; omega, twr_of (by rw [hl2]; omega) (by rw [hl2]; omega) (fun i hi => ?_)⟩
    rw [List.getElem_map]
    unfold pk Bd
    dsimp only
    omega
theorem tmod5 (x : Int) : -4 ≤ x.tmod 5 ∧ x.tmod 5 ≤ 4 := by
  have h1 := Int.natAbs_tmod x 5
  have h2 := Nat.mod_lt x.natAbs (show (5 : Int).natAbs > 0 by decide)
  have : (x.tmod 5).natAbs ≤ 4 := by rw [h1]; omega
  omega
set_option maxRecDepth 100000 in
set_option maxHeartbeats 1000000 in
theorem HullStands_any (ps : List Pt) (a : Option Addr) (c : Nat) (pl : Int) (w : World) (hp : PtsA w a ps c) (_hc : ps.length ≤ c) (_hn : a = none → c = 0) (hl : ps.length ≤ maxLen) (hz : ∀ q ∈ ps, InI q.1 ∧ InI q.2) (_hi : InI pl) :
    Calls Try.prog 10 #[.slice a ps.length c, .int .i64 pl] w fun e w' => e = .returned (.bool true) ∧ Below w.heap.size w w' := by
  have hpk := planks_any ps a c w hp hl hz
  have hF := planksF_ok ps
  generalize planksF ps = qs at *
  clear hp _hc _hn hl hz
  go_enter Try.func10, Try.ntmps10
  go_wp2_with fail
  refine hpk.mono ?_
  rintro e w1 ⟨v, rfl, ho, hb⟩
  obtain ⟨g, c2, rfl, hg⟩ : ∃ g c2, v = .slice (some ⟨g, 0, none⟩) qs.length c2 ∧ w.heap.size ≤ g := by
    obtain ⟨a2, c2, rfl, h⟩ := ho.open
    rcases h with ⟨_, _, rfl⟩ | ⟨g, hg, rfl, _⟩
    · simp at hF
    · exact ⟨g, c2, rfl, hg⟩
  have HO := Lib.hid (show OwnG w1 w.heap.size g c2 qs from ho)
  have HB := Lib.hid hb
  obtain ⟨N, hN⟩ : ∃ N, qs.length = N := ⟨_, rfl⟩
  rw [hN]
  have hN1 : 1 ≤ N := by omega
  have hN12 : N ≤ 12 := by have := twr_len hF.2; omega
  have HT := Lib.hid (And.intro hN hF.2)
  clear hpk ho hb hN hF
  go_wp2_with fail
  go_loopw [6] (fun r wr => ∃ (j : Nat) (qs : List Pt), r = .int .i64 (j : Int) ∧ j ≤ 2 ∧ Hid (OwnG wr w.heap.size g c2 qs) ∧ Hid (qs.length = N ∧ twrB qs = true) ∧ Hid (Below w.heap.size w wr)) (fun r _ => 2 - (intOf r).toNat)
  case atStart => exact ⟨0, qs, rfl, by omega, HO, HT, HB⟩
  case round =>
    clear HO HT HB
    clear qs
    obtain ⟨j, qs, rfl, hj, HO, HT, HB⟩ := hrel
    by_cases hlt : j < 2
    · have hd : decide ((j : Int) < 2) = true := decide_eq_true (by omega)
      obtain ⟨p, hpN, hp1, hp2⟩ : ∃ p : Nat, p < N ∧ wrap64 ((IntKind.u64.wrap pl).tmod (N : Int)) = (p : Int) ∧ IntKind.i64.wrap ((IntKind.u64.wrap pl).tmod (N : Int)) = (p : Int) := by
        have e2 : (IntKind.u64.wrap pl).tmod (N : Int) = IntKind.u64.wrap pl % (N : Int) := Int.tmod_eq_emod_of_nonneg (by rw [u64_wrap]; omega)
        have h1 := Int.emod_nonneg (IntKind.u64.wrap pl) (show (N : Int) ≠ 0 by omega)
        have h2 := Int.emod_lt_of_pos (IntKind.u64.wrap pl) (show (0 : Int) < N by omega)
        refine ⟨(IntKind.u64.wrap pl % (N : Int)).toNat, by omega, ?_, ?_⟩
        · rw [e2, w64_of (by omega) (by omega)]; omega
        · rw [e2, i64_of _ (by omega) (by omega)]; omega
      have hne : qs ≠ [] := fun h => by have := HT.out.1; subst h; simp at this; omega
      obtain ⟨hpt, hcc, hg0⟩ := HO.out.pts hne
      have HC1 := Balance_any qs g c2 p wr hpt hcc HT.out.2 (by rw [HT.out.1]; exact hpN)
      have HPT := Lib.hid hpt
      have HCC := Lib.hid hcc
      rw [HT.out.1] at HC1
      obtain ⟨B1, B2, hB12⟩ : ∃ B1 B2, balF (qs.drop p) = (B1, B2) := ⟨_, _, rfl⟩
      rw [hB12] at HC1
      dsimp only at HC1
      have HB12 := Lib.hid hB12
      clear hB12 hpt hcc
      go_wp2_with fail
      refine HC1.mono ?_
      rintro e w2 ⟨rfl, hb⟩
      have BA := Below.al (Below.refl w2.heap.size w2) (Nat.le_refl _) (.cells #[.int .i64 B1, .int .i64 B2] 58)
      have BW := Below.andThen hb BA (Nat.le_refl _)
      have T2 := Lib.hid (Below.andThen HB.out BW (Nat.le_refl _))
      have O2 := Lib.hid (show OwnG (w2.alloc (.cells #[.int .i64 B1, .int .i64 B2] 58)) w.heap.size g c2 qs from own_grow HO.out BW)
      have P2 := Lib.hid (HPT.out.grow BW)
      have r2 := Lib.hid (show Row (w2.alloc (.cells #[.int .i64 B1, .int .i64 B2] 58)) w2.heap.size 58 [.int .i64 B1, .int .i64 B2] from Row.new _ _ _)
      clear hb BA BW HC1 HO HPT HB
      go_wp2_with fail
      generalize w2.alloc (.cells #[.int .i64 B1, .int .i64 B2] 58) = V2 at *
      have HS := Stands_any qs g c2 V2 P2.out HCC.out HT.out.2
      rw [HT.out.1] at HS
      obtain ⟨S1, S2, hS⟩ : ∃ S1 S2, standF qs = (S1, S2) := ⟨_, _, rfl⟩
      rw [hS] at HS
      dsimp only at HS
      refine HS.mono ?_
      rintro e w3 ⟨rfl, hb⟩
      have T3 := Lib.hid (Below.andThen T2.out hb (Nat.le_refl _))
      have O3 := Lib.hid (show OwnG w3 w.heap.size g c2 qs from own_grow O2.out hb)
      have P3 := Lib.hid (P2.out.grow hb)
      have r3 := Lib.hid (r2.out.below hb r2.out.lt)
      clear hb HS T2 O2 P2 r2
      go_wp2_with fail
      have HR := Reach_any qs g c2 w3 P3.out HCC.out HT.out.2
      rw [HT.out.1] at HR
      obtain ⟨R, hR⟩ : ∃ R, rch qs N = R := ⟨_, rfl⟩
      rw [hR] at HR
      refine HR.mono ?_
      rintro e w4 ⟨rfl, hb⟩
      have T4 := Lib.hid (Below.andThen T3.out hb (Nat.le_refl _))
      have O4 := Lib.hid (show OwnG w4 w.heap.size g c2 qs from own_grow O3.out hb)
      have P4 := Lib.hid (P3.out.grow hb)
      have r4 := Lib.hid (r3.out.below hb r3.out.lt)
      clear hb HR T3 O3 P3 r3
      go_wp2_with fail
      have HQ := rStands_any qs g c2 w4 P4.out HT.out.2
      rw [HT.out.1, hS] at HQ
      dsimp only at HQ
      refine HQ.mono ?_
      rintro e w5 ⟨rfl, hb⟩
      have T5 := Lib.hid (Below.andThen T4.out hb (Nat.le_refl _))
      have O5 := Lib.hid (show OwnG w5 w.heap.size g c2 qs from own_grow O4.out hb)
      have P5 := Lib.hid (P4.out.grow hb)
      have r5 := Lib.hid (r4.out.below hb r4.out.lt)
      clear hb HQ T4 O4 P4 r4
      have HC53 := Lib.hid (fun (x : Kl w5) => rBalance_any qs g c2 p x.W (P5.out.grow x.h) (by rw [HT.out.1]; exact hpN) (by rw [HT.out.1]; exact hN12) (fun i hi => twr_bd HT.out.2 hi))
      have HC54 := Lib.hid (fun (x : Kl w5) => rReach_any qs g c2 x.W (P5.out.grow x.h) (by rw [HT.out.1]; exact hN1) (by rw [HT.out.1]; exact hN12) (fun i hi => twr_bd HT.out.2 hi))
      rw [HT.out.1, HB12.out] at HC53
      rw [HT.out.1, hR] at HC54
      dsimp only at HC53
      obtain ⟨z0, z1, _, _⟩ := two_cells r5.out
      have x0 := Kl.cell r5.out.lt z0
      have x1 := Kl.cell r5.out.lt z1
      have E0 := eq58 B1 B2
      clear z0 z1
      go_wp2_with fail
      refine wp_region_below (by kernel_rfl) (by kernel_rfl) ?_
      repeat (go_big_quiet_step (first | (go_at_call 53; exact Kl.call (HC53.out _)) | (go_at_call 54; exact Kl.call (HC54.out _))))
      refine wpQuiet_nil ?_
      rintro _ ⟨wq, rfl⟩
      have T6 := Lib.hid (Below.andThen T5.out wq.h (Nat.le_refl _))
      have O6 := Lib.hid (show OwnG wq.W w.heap.size g c2 qs from own_grow O5.out wq.h)
      generalize wq.W = w6 at *
      clear x0 x1 HC53 HC54 T5 O5 P5 r5
      go_wp2_with fail
      have HI0 := Lib.hid (show (∀ i (h : i < qs.length), Bd 1000 qs[i].1 ∧ 1 ≤ qs[i].2 ∧ qs[i].2 ≤ 100) from fun i h => twr_bd HT.out.2 h)
      have HN := Lib.hid HT.out.1
      clear HB12 hR hS E0 HCC HT hp1 hp2
      go_loopw [17, 18] (fun i _ wx => ∃ (k : Nat) (qs : List Pt), i = .int .i64 (k : Int) ∧ k ≤ N ∧ Hid (OwnG wx w.heap.size g c2 qs) ∧ Hid (qs.length = N) ∧ Hid (∀ i (h : i < qs.length), Bd 1000 qs[i].1 ∧ 1 ≤ qs[i].2 ∧ qs[i].2 ≤ 100) ∧ Hid (∀ i (h : i < qs.length), i < k → Bd (100 + 4 * (i + 1)) qs[i].1) ∧ Hid (Below w.heap.size w wx)) (fun i _ _ => N - (intOf i).toNat)
      case atStart => exact ⟨0, qs, rfl, by omega, O6, HN, HI0, Lib.hid (fun i h h' => by omega), T6⟩
      case round =>
        clear O6 HN HI0 T6 hne
        clear qs
        obtain ⟨k, qs, rfl, hk, HO, HN, HI, HJ, HB⟩ := hrel
        by_cases hlt : k < N
        · have hd : decide ((k : Int) < (N : Int)) = true := decide_eq_true (by omega)
          have hne : qs ≠ [] := fun h => by have := HN.out; subst h; simp at this; omega
          obtain ⟨hpt, hcc, hg0⟩ := HO.out.pts hne
          have hk' : k < qs.length := by rw [HN.out]; exact hlt
          have y0 := hpt.y 0 (by omega)
          rw [show 0 + 0 * 2 + 1 = 1 from rfl] at y0
          have b0 := (HI.out 0 (by omega)).2
          have n0 : IntKind.i64.wrap (-(qs[0]'(by omega)).2) = -(qs[0]'(by omega)).2 := i64_of _ (by omega) (by omega)
          by_cases hk0 : k = 0
          · have d5 : decide (0 < k) = false := decide_eq_false (by omega)
            subst hk0
            have xk := hpt.x 0 hk'
            rw [show 0 + 0 * 2 = 0 from rfl] at xk
            have bk := HI.out 0 hk'
            obtain ⟨k1, hk1'⟩ : ∃ k1, (qs[0]'hk').1 = k1 := ⟨_, rfl⟩
            obtain ⟨k2, hk2'⟩ : ∃ k2, (qs[0]'hk').2 = k2 := ⟨_, rfl⟩
            rw [hk2'] at y0 b0 n0 bk
            rw [hk1'] at xk bk
            have hmv := Lib.hid (moved_ok HN.out hN12 HI.out HJ.out hlt (x := -k2 + k1.tmod 5) (y := k2) (by unfold Bd at *; have := tmod5 k1; omega) bk.2)
            have e4 : wrap64 (-k2 + k1.tmod 5) = -k2 + k1.tmod 5 := w64_of (by unfold Bd at *; have := tmod5 k1; omega) (by unfold Bd at *; have := tmod5 k1; omega)
            have e5 : IntKind.i64.wrap (-k2 + k1.tmod 5) = -k2 + k1.tmod 5 := i64_of _ (by unfold Bd at *; have := tmod5 k1; omega) (by unfold Bd at *; have := tmod5 k1; omega)
            clear bk b0 hk1' hk2'
            have X0 := Kl.cell hpt.lt xk
            have X1 := Kl.cell hpt.lt y0
            clear hpt
            go_wp2_with fail
            refine wp_region_cut (C := fun w' => ∃ n : Kl wr, w' = n.W) 17 (by kernel_rfl) (by kernel_rfl) ⟨⟨wr.drew, (Below.refl _ _).drew⟩, rfl⟩ ?_
            simp only [List.take_succ_cons, List.take_zero, List.drop_succ_cons, List.drop_zero]
            repeat (go_big_quiet_step (fail))
            refine wpQuiet_nil ?_
            rintro _ ⟨wq, rfl⟩
            have HBq := Lib.hid (Below.andThen HB.out wq.h (Nat.le_refl _))
            have HOq := Lib.hid (show OwnG wq.W w.heap.size g c2 qs from own_grow HO.out wq.h)
            obtain ⟨hpq, _, _⟩ := HOq.out.pts hne
            have uk := hpq.x 0 hk'
            have vk := hpq.y 0 hk'
            rw [show 0 + 0 * 2 = 0 from rfl] at uk
            rw [show 0 + 0 * 2 + 1 = 1 from rfl] at vk
            have g0 := HOq.out.frozen 0
            have g1 := HOq.out.frozen 1
            have HOn := Lib.hid (show OwnG ((wq.W.setCell ⟨g, 0, none⟩ (.int .i64 (-k2 + k1.tmod 5))).setCell ⟨g, 1, none⟩ (.int .i64 k2)) w.heap.size g c2 (qs.set 0 (-k2 + k1.tmod 5, k2)) from HOq.out.set 0 hk' (-k2 + k1.tmod 5) k2)
            have HBn := Lib.hid ((HBq.out.setCell (p := ⟨g, 0, none⟩) hg0 (.int .i64 (-k2 + k1.tmod 5))).setCell (p := ⟨g, 1, none⟩) hg0 (.int .i64 k2))
            clear hpq
            go_wp2_with fail
            refine ⟨⟨0 + 1, _, by simp, by omega, HOn, Lib.hid hmv.out.1, Lib.hid hmv.out.2.1, Lib.hid hmv.out.2.2, HBn⟩, ?_⟩
            simp [intOf]; omega
          · have d5 : decide (0 < k) = true := decide_eq_true (by omega)
            have hk1 : k - 1 < qs.length := by omega
            have xk := hpt.x k hk'
            have yk := hpt.y k hk'
            have xm := hpt.x (k - 1) hk1
            rw [Nat.zero_add] at xk yk xm
            have bk := HI.out k hk'
            have bm := HJ.out (k - 1) hk1 (by omega)
            have e1 : IntKind.i64.wrap ((k : Int) - 1) = ((k - 1 : Nat) : Int) := by rw [i64_of _ (by omega) (by omega)]; omega
            have e2 : (k : Int) - 1 = ((k - 1 : Nat) : Int) := by omega
            obtain ⟨l0, hl0⟩ : ∃ l0, (qs[0]'(by omega)).2 = l0 := ⟨_, rfl⟩
            obtain ⟨m1, hm1⟩ : ∃ m1, qs[k - 1].1 = m1 := ⟨_, rfl⟩
            obtain ⟨k1, hk1'⟩ : ∃ k1, qs[k].1 = k1 := ⟨_, rfl⟩
            obtain ⟨k2, hk2'⟩ : ∃ k2, qs[k].2 = k2 := ⟨_, rfl⟩
            rw [hl0] at y0 b0 n0
            rw [hm1] at xm bm
            rw [hk1'] at xk bk
            rw [hk2'] at yk bk
            have hk3 : k ≤ 12 := by omega
            have bm2 : Bd (100 + 4 * (k : Int)) m1 := by unfold Bd at *; omega
            have hmv := Lib.hid (moved_ok HN.out hN12 HI.out HJ.out hlt (x := m1 + k1.tmod 5) (y := k2) (by unfold Bd at *; have := tmod5 k1; omega) bk.2)
            have f0 := HO.out.frozen (k * 2)
            have f1 := HO.out.frozen (k * 2 + 1)
            have e4 : wrap64 (m1 + k1.tmod 5) = m1 + k1.tmod 5 := w64_of (by unfold Bd at *; have := tmod5 k1; omega) (by unfold Bd at *; have := tmod5 k1; omega)
            have e5 : IntKind.i64.wrap (m1 + k1.tmod 5) = m1 + k1.tmod 5 := i64_of _ (by unfold Bd at *; have := tmod5 k1; omega) (by unfold Bd at *; have := tmod5 k1; omega)
            have XK := Lib.hid (And.intro hk1' hk2')
            clear bm bk bm2 b0 hl0 hm1 hk1' hk2'
            have X0 := Kl.cell hpt.lt xk
            have X1 := Kl.cell hpt.lt yk
            clear hpt hk0
            generalize hkk : k - 1 = kk at *
            clear hkk
            go_wp2_with fail
            refine wp_region_cut (C := fun w' => ∃ n : Kl wr, w' = n.W) 17 (by kernel_rfl) (by kernel_rfl) ⟨⟨wr.drew, (Below.refl _ _).drew⟩, rfl⟩ ?_
            simp only [List.take_succ_cons, List.take_zero, List.drop_succ_cons, List.drop_zero]
            repeat (go_big_quiet_step (fail))
            refine wpQuiet_nil ?_
            rintro _ ⟨wq, rfl⟩
            have HBq := Lib.hid (Below.andThen HB.out wq.h (Nat.le_refl _))
            have HOq := Lib.hid (show OwnG wq.W w.heap.size g c2 qs from own_grow HO.out wq.h)
            obtain ⟨hpq, _, _⟩ := HOq.out.pts hne
            have uk := hpq.x k hk'
            have vk := hpq.y k hk'
            rw [Nat.zero_add] at uk vk
            have g0 := HOq.out.frozen (k * 2)
            have g1 := HOq.out.frozen (k * 2 + 1)
            have HOn := Lib.hid (HOq.out.set k hk' (m1 + k1.tmod 5) k2)
            have HBn := Lib.hid ((HBq.out.setCell (p := ⟨g, k * 2, none⟩) hg0 (.int .i64 (m1 + k1.tmod 5))).setCell (p := ⟨g, k * 2 + 1, none⟩) hg0 (.int .i64 k2))
            clear f0 f1 hpq
            go_wp2_with fail
            refine ⟨⟨k + 1, _, by simp, by omega, HOn, Lib.hid hmv.out.1, Lib.hid hmv.out.2.1, Lib.hid hmv.out.2.2, HBn⟩, ?_⟩
            simp [intOf]; omega
        · have hd : decide ((k : Int) < (N : Int)) = false := decide_eq_false (by omega)
          have HT := Lib.hid (And.intro HN.out (twr_of (by rw [HN.out]; exact hN1) (by rw [HN.out]; exact hN12) HI.out))
          go_wp2_with fail
          refine ⟨⟨j + 1, qs, by simp, by omega, HO, HT, HB⟩, ?_⟩
          simp [intOf]; omega
    · have hd : decide ((j : Int) < 2) = false := decide_eq_false (by omega)
      go_wp2_with fail
      refine (awake_any _).mono ?_
      rintro e w8 ⟨rfl, hb⟩
      have T8 := Lib.hid (Below.andThen HB.out hb (Nat.le_refl _))
      clear hb
      go_wp2_with fail
      go_ret
      exact ⟨rfl, T8.out⟩
end Go.Proofs.Ytlehddifcjklgaa
namespace Go.Proofs.Ytlehddifcjklgaa
open Go.RowKit Go.Shelf
attribute [local go_sem] Oper.semAt_some
/-- the way from a by b to c turns to the left, as the reference reckons -/
def turn (a b c : Pt) : Int := (b.1 - a.1) * (c.2 - b.2) - (b.2 - a.2) * (c.1 - b.1)
theorem turn_crs (a b c : Pt) : turn a b c = crs (mn b a) (mn c a) := by
  obtain ⟨a1, a2⟩ := a
  obtain ⟨b1, b2⟩ := b
  obtain ⟨c1, c2⟩ := c
  unfold turn crs mn
  dsimp only
  have e1 : c2 - a2 = (c2 - b2) + (b2 - a2) := by omega
  have e2 : c1 - a1 = (c1 - b1) + (b1 - a1) := by omega
  rw [e1, e2, Int.mul_add, Int.neg_mul, Int.mul_add, Int.mul_comm (b1 - a1) (b2 - a2)]
  omega
theorem crs_self (a : Pt) : crs a a = 0 := by
  unfold crs; rw [Int.neg_mul, Int.mul_comm]; omega
theorem turn_end1 (a b : Pt) : turn a b a = 0 := by rw [turn_crs]; unfold crs mn; simp
theorem turn_end2 (a b : Pt) : turn a b b = 0 := by rw [turn_crs, crs_self]
theorem count_two {i j : Nat} (hij : i ≠ j) : ∀ n, (List.range n).countP (fun k => k == i || k == j) = (if i < n then 1 else 0) + (if j < n then 1 else 0)
  | 0 => by simp
  | n + 1 => by
    rw [List.range_succ, List.countP_append, count_two hij n]
    simp only [List.countP_cons, List.countP_nil, Bool.or_eq_true, beq_iff_eq]
    split <;> split <;> split <;> split <;> split <;> omega
theorem count_three {i j l : Nat} (hij : i ≠ j) (hil : i ≠ l) (hjl : j ≠ l) : ∀ n, (List.range n).countP (fun k => k == i || k == j || k == l) = (if i < n then 1 else 0) + (if j < n then 1 else 0) + (if l < n then 1 else 0)
  | 0 => by simp
  | n + 1 => by
    rw [List.range_succ, List.countP_append, count_three hij hil hjl n]
    simp only [List.countP_cons, List.countP_nil, Bool.or_eq_true, beq_iff_eq]
    split <;> split <;> split <;> split <;> split <;> split <;> split <;> omega
theorem count_but {q : Nat → Bool} {n i j : Nat} (hij : i ≠ j) (hi : i < n) (hj : j < n) (qi : q i = false) (qj : q j = false) :
    ((List.range n).countP q : Int) = (n : Int) - 2 ↔ ∀ k, k < n → k ≠ i → k ≠ j → q k = true := by
  have htot : (List.range n).countP q + (List.range n).countP (fun k => !q k) = n := by
    have := List.length_eq_countP_add_countP q (l := List.range n)
    rw [List.length_range] at this
    have e : (List.range n).countP (fun k => !q k) = (List.range n).countP (fun a => decide ¬q a = true) := List.countP_congr (fun x _ => by simp)
    omega
  constructor
  · intro h k hk hki hkj
    cases hqk : q k with
    | true => rfl
    | false =>
      exfalso
      have h3 := count_three (i := i) (j := j) (l := k) hij (Ne.symm hki) (Ne.symm hkj) n
      rw [if_pos hi, if_pos hj, if_pos hk] at h3
      have hle : (List.range n).countP (fun x => x == i || x == j || x == k) ≤ (List.range n).countP (fun k => !q k) := List.countP_mono_left (fun x _ hx => by
        simp only [Bool.or_eq_true, beq_iff_eq] at hx
        rcases hx with (rfl | rfl) | rfl
        · simp [qi]
        · simp [qj]
        · simp [hqk])
      omega
  · intro h
    have h2 := count_two hij n
    rw [if_pos hi, if_pos hj] at h2
    have he : (List.range n).countP (fun k => !q k) = (List.range n).countP (fun k => k == i || k == j) := List.countP_congr (fun x hx => by
      have hx := List.mem_range.1 hx
      simp only [Bool.not_eq_true', Bool.or_eq_true, beq_iff_eq]
      constructor
      · intro hq
        by_cases h1 : x = i
        · exact .inl h1
        · by_cases h2 : x = j
          · exact .inr h2
          · have := h x hx h1 h2; rw [hq] at this; cases this
      · rintro (rfl | rfl)
        · exact qi
        · exact qj)
    omega
theorem countP_idx (p : Pt → Bool) (ps : List Pt) : ps.countP p = (List.range ps.length).countP (fun k => p (ptAt ps k)) := by
  have e : ps = (List.range ps.length).map (ptAt ps) := by
    apply List.ext_getElem
    · simp
    · intro i h1 h2
      simp [ptAt_lt h1]
  have : ps.countP p = ((List.range ps.length).map (ptAt ps)).countP p := by rw [← e]
  rw [this, List.countP_map]
  rfl
/-- a corner pair is a side: all the others turn to the left -/
theorem sideAt_iff {ps : List Pt} (h3 : 3 ≤ ps.length) {i : Nat} (hi : i < ps.length) :
    sideAt ps i = true ↔ ∀ k, k < ps.length → k ≠ i → k ≠ (i + 1) % ps.length → 0 < turn (ptAt ps i) (nx ps i) (ptAt ps k) := by
  have hj : (i + 1) % ps.length < ps.length := Nat.mod_lt _ (by omega)
  have hij : i ≠ (i + 1) % ps.length := by
    by_cases h : i + 1 < ps.length
    · rw [Nat.mod_eq_of_lt h]; omega
    · have : i + 1 = ps.length := by omega
      rw [this, Nat.mod_self]; omega
  have hq : ∀ k, lft (ptAt ps i) (nx ps i) (ptAt ps k) = decide (0 < turn (ptAt ps i) (nx ps i) (ptAt ps k)) := fun k => by rw [turn_crs]; rfl
  have := count_but (q := fun k => lft (ptAt ps i) (nx ps i) (ptAt ps k)) hij hi hj (by rw [hq, turn_end1]; rfl) (by rw [hq]; unfold nx; rw [turn_end2]; rfl)
  unfold sideAt isSide
  rw [decide_eq_true_iff, countP_idx, this]
  constructor
  · intro h k h1 h2 h3; have := h k h1 h2 h3; rw [hq] at this; exact of_decide_eq_true this
  · intro h k h1 h2 h3; rw [hq]; exact decide_eq_true (h k h1 h2 h3)
end Go.Proofs.Ytlehddifcjklgaa
