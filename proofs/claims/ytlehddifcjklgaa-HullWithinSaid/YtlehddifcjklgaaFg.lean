import Derived.Test.YtlehddifcjklgaaEq
import Derived.Test.YtlehddifcjklgaaDb
import Derived.Test.YtlehddifcjklgaaCs
import Derived.Test.YtlehddifcjklgaaFd
import Derived.Maps.OwnIn
import Derived.Maps.OwnSet
import Derived.Maps.AppendAt
import Derived.RangeFuncNested
import Derived.RangeFuncBound
import Derived.RangeFuncCalls
import Derived.RangeFuncLeaves
import Derived.Shelf.Abstract
import Derived.Shelf.RegionOpen
import Derived.WalkKit
import Derived.OwnWalkIn
import Derived.TacticsInMore
import Derived.LoopNIn
import Derived.LoopIn
import Derived.WalkMore
import Derived.Sort.QuietThIn
import Derived.Sort.QuietTacIn
import Derived.Sort.BigQuietIn
import Derived.WalkSpells
import Derived.WalkLawsBesides
import Derived.BigQuiet
import Derived.Deep.QuietTactic
import Derived.Lib.Hide
import Derived.Deep.RegionHeld3
import Derived.StillTailTactics
import Derived.Deep.LoopGhost
import Derived.Lib.IndexAny
namespace Go.Proofs.Ytlehddifcjklgaa
open Go.RowKit Go.Shelf
attribute [local go_sem] Oper.semAt_some
/-! a block of cells that may be written -/
def Blk (W : World) (g : Nat) (E : TypeId) (n : Nat) : Prop := ∃ cur : Array Value, W.heap[g]? = some (.cells cur E (0, 0)) ∧ cur.size = n
theorem Blk.lt {W : World} {g : Nat} {E : TypeId} {n : Nat} (h : Blk W g E n) : g < W.heap.size := by
  obtain ⟨cur, hh, _⟩ := h
  exact (Array.getElem?_eq_some_iff.1 hh).1
theorem Blk.frozen {W : World} {g : Nat} {E : TypeId} {n : Nat} (h : Blk W g E n) (i : Nat) : W.frozen? ⟨g, i, none⟩ = false := by
  obtain ⟨cur, hh, _⟩ := h
  simp [World.frozen?, hh]
theorem Blk.cell {W : World} {g : Nat} {E : TypeId} {n : Nat} (h : Blk W g E n) {i : Nat} (hi : i < n) : ∃ v, W.cell? ⟨g, i, none⟩ = some v := by
  obtain ⟨cur, hh, rfl⟩ := h
  exact ⟨cur[i], by simp [World.cell?, hh, hi]⟩
theorem Blk.set {W : World} {g : Nat} {E : TypeId} {n : Nat} (h : Blk W g E n) (i : Nat) (v : Value) : Blk (W.setCell ⟨g, i, none⟩ v) g E n := by
  obtain ⟨cur, hh, hn⟩ := h
  have hlt := (Array.getElem?_eq_some_iff.1 hh).1
  obtain ⟨_, he⟩ := Array.getElem?_eq_some_iff.1 hh
  exact ⟨cur.setIfInBounds i v, by simp [World.setCell, hlt, Array.getElem_modify, he], by simp [hn]⟩
theorem Blk.kept {W W' : World} {g : Nat} {E : TypeId} {n : Nat} (h : Blk W g E n) {g' : Nat} (hg : W.grownBy W' (some g')) (hne : g ≠ g') : Blk W' g E n := by
  have hl := h.lt
  obtain ⟨cur, hh, hn⟩ := h
  exact ⟨cur, by rw [hg.block g hl (fun e => hne (Option.some.inj e))]; exact hh, hn⟩
theorem Blk.grow {W W' : World} {g : Nat} {E : TypeId} {n : Nat} (h : Blk W g E n) (hb : Below W.heap.size W W') : Blk W' g E n := by
  have hl := h.lt
  obtain ⟨cur, hh, hn⟩ := h
  exact ⟨cur, by rw [hb.block g hl]; exact hh, hn⟩
theorem blk_row {W : World} {n₀ e s k : Nat} {v : Value} {xs : List Value} (h : W.ownsRow n₀ e s v k xs) (hk : 0 < k) : ∃ g c, v = .slice (some ⟨g, 0, none⟩) k c ∧ n₀ ≤ g ∧ k ≤ c ∧ Blk W g e (c * s) := by
  rcases h.2 with ⟨_, h2⟩ | ⟨g, cap, cur, he, h1, h2, h3, h4, h5, h6⟩
  · omega
  · exact ⟨g, cap, he, h1, h3, cur, h2, h5⟩
theorem grownBy_refl (W : World) (row : Option Nat) : W.grownBy W row := ⟨rfl, rfl, rfl, Nat.le_refl _, fun _ _ _ => rfl⟩
theorem below_of_grown {n : Nat} {W W' : World} {g : Nat} (h : W.grownBy W' (some g)) (hg : n ≤ g) (hn : n ≤ W.heap.size) : Below n W W' :=
  ⟨h.os, h.tape, h.output, h.size, fun k hk => h.block k (by omega) (fun e => by have := Option.some.inj e; omega)⟩
/-- the corners of a hull are no points of one line -/
theorem around_hull {hs L : List Pt} (hc : chk hs = true) (hL : L.Perm hs) (hs' : SrtU L L.length) : 3 ≤ (arnd (dd L)).length := by
  have h3 := (areP_len (chk_areP hc)).1
  have t0 := chk_turn hc (i := 0) (k := 2) (by omega) (by omega) (by omega) (by rw [Nat.mod_eq_of_lt (by omega)]; omega)
  have e1 : nx hs 0 = ptAt hs 1 := by unfold nx; rw [Nat.mod_eq_of_lt (by omega)]
  rw [e1] at t0
  have m0 : ptAt hs 0 ∈ hs := ptAt_mem (by omega)
  have m1 : ptAt hs 1 ∈ hs := ptAt_mem (by omega)
  have m2 : ptAt hs 2 ∈ hs := ptAt_mem (by omega)
  generalize ptAt hs 0 = A at *
  generalize ptAt hs 1 = B at *
  generalize ptAt hs 2 = C at *
  have hne : A ≠ B := by rintro rfl; unfold turn at t0; grind
  obtain ⟨_, hm⟩ := dd_sorted hs'
  have d0 := (hm A).2 (hL.mem_iff.2 m0)
  have d1 := (hm B).2 (hL.mem_iff.2 m1)
  have hd : 2 ≤ (dd L).length := by
    match h : dd L, d0, d1 with
    | [], d0, _ => simp at d0
    | [x], d0, d1 => simp at d0 d1; exact absurd (d0.trans d1.symm) hne
    | x :: y :: r, _, _ => simp
  obtain ⟨hcy, f, hf, _, _⟩ := arnd_any hL hs' hd
  rcases Nat.lt_or_ge (arnd (dd L)).length 3 with h | h
  · exfalso
    match ho : arnd (dd L), hcy, hf, h with
    | [], _, hf, _ => simp at hf
    | [a], hcy, _, _ =>
      have := hcy.next 0 (by simp)
      exact this.2.1 (by simp [nx, ptAt])
    | [a, b], hcy, _, _ =>
      have b1 := hcy.next 0 (by simp)
      have b2 := hcy.next 1 (by simp)
      have q1 : ptAt [a, b] 0 = a := rfl
      have q2 : nx [a, b] 0 = b := rfl
      have q3 : ptAt [a, b] 1 = b := rfl
      have q4 : nx [a, b] 1 = a := by simp [nx, ptAt]
      rw [q1, q2] at b1
      rw [q3, q4] at b2
      have hz : ∀ p ∈ hs, crs (mn b a) (mn p a) = 0 := by
        intro p hp
        rcases Classical.em (p = a) with e | e
        · subst e; unfold crs mn; dsimp only; omega
        · rcases Classical.em (p = b) with e' | e'
          · subst e'; unfold crs mn; dsimp only; grind
          · have k1 := (b1.2.2 p hp e).1
            have k2 := (b2.2.2 p hp e').1
            have k3 : crs (mn a b) (mn p b) = -crs (mn b a) (mn p a) := by unfold crs mn; dsimp only; grind
            omega
      have z0 := hz A m0
      have z1 := hz B m1
      have z2 := hz C m2
      have hdp : 0 < dt (mn b a) (mn b a) := by
        refine dt_pos fun ⟨e1, e2⟩ => b1.2.1 ?_
        unfold mn at e1 e2
        dsimp only at e1 e2
        exact Prod.ext (by omega) (by omega)
      have k : turn A B C * dt (mn b a) (mn b a) = 0 := by
        have e : turn A B C * dt (mn b a) (mn b a) = (crs (mn b a) (mn B a) - crs (mn b a) (mn A a)) * -(dt (mn b a) (mn C B)) + dt (mn b a) (mn B A) * (crs (mn b a) (mn C a) - crs (mn b a) (mn B a)) := by
          unfold turn dt crs mn; dsimp only; grind
        rw [e, z0, z1, z2]; simp
      have := Int.mul_pos t0 hdp
      omega
    | _ :: _ :: _ :: _, _, _, h => simp at h; omega
  · exact h
set_option maxRecDepth 100000 in
set_option maxHeartbeats 1000000 in
theorem HullOwn_any (ps : List Pt) (a : Option Addr) (c : Nat) (fr : Int) (w : World) (hp : PtsA w a ps c) (_hc : ps.length ≤ c) (_hn : a = none → c = 0) (hl : ps.length ≤ maxLen) (hz : ∀ q ∈ ps, InI q.1 ∧ InI q.2) (_hi : InI fr) :
    Calls Try.prog 17 #[.slice a ps.length c, .int .i64 fr] w fun e w' => e = .returned (.bool true) ∧ Below w.heap.size w w' := by
  have htm := tame_any ps a c fr w hp hl hz
  clear hp _hc _hn hl hz _hi
  go_enter Try.func17, Try.ntmps17
  go_wp2_with fail
  refine htm.mono ?_
  rintro e w1 ⟨v, hs, rfl, ho, hck, hb⟩
  have ha := chk_areP hck
  have hA := chk_area hck
  obtain ⟨h3, h12⟩ := areP_len ha
  obtain ⟨g, c2, rfl, hg0, _, hpt, hcc⟩ := ho.someOf (by omega)
  have hgl := hpt.lt
  have HR := Lib.hid (fun W (h : PtsAt W g 0 hs) => Rests_any hs g c2 W h hck hA)
  have HT := Lib.hid (fun W (h : PtsAt W g 0 hs) => Turned_any hs g c2 W h hcc hck)
  have HA := Lib.hid (fun W (h : PtsAt W g 0 hs) => Around_good hs g c2 W h ha hcc)
  have HRR := Lib.hid (fun W g' c' (h : PtsAt W g' 0 hs) => rRests_any hs g' c' false W h hck)
  have HRT := Lib.hid (fun W g' c' (h : PtsAt W g' 0 hs) => rTurned_any hs g' c' W h ha)
  have l1 := sidesL_length (restB hs (mid hs)) hs.length
  have l0 : 2 ≤ (sidesL (restB hs (mid hs)) hs.length).length := by
    have hkl := lowN_lt hs (mid hs) hs.length (by omega)
    have hleast := lowN_least hck hs.length (Nat.le_refl _)
    have hfk := lowest_firm hck hkl hleast
    obtain ⟨k2, hk2, hkne, hfk2⟩ := two_firm hck hkl hleast
    exact Nat.le_trans (two_count hkl hk2 (fun e => hkne e.symm) hfk hfk2) (rests_ge hs (mid hs) hs.length)
  have HAH := Lib.hid (fun L hL hs' => around_hull (hs := hs) (L := L) hck hL hs')
  have hOW := own_any hs (some ⟨g, 0, none⟩) c2 w1 (.inr ⟨g, 0, rfl, hpt, hcc⟩) hcc (fun h => by cases h) (by unfold maxLen; omega)
  rw [List.take_of_length_le (show hs.length ≤ 13 by omega)] at hOW
  have hOW := Lib.hid hOW
  have HP := Lib.hid hpt
  have T1 := Lib.hid hb
  have hrr : (fun s => if false = true then firmB hs (mid hs) s else restB hs (mid hs) s) = restB hs (mid hs) := by simp
  have HRR : Hid (∀ W g' c', PtsAt W g' 0 hs → Calls Try.prog 35 #[.slice (some ⟨g', 0, none⟩) hs.length c', .bool false] W fun e w' => ∃ v, e = .returned v ∧ w'.ownsRow W.heap.size 3 1 v (sidesL (restB hs (mid hs)) hs.length).length ((sidesL (restB hs (mid hs)) hs.length).map encI) ∧ Below W.heap.size W w') := by
    have h := HRR.out
    simp only [Bool.false_eq_true, if_false] at h
    exact h
  have S1 : Hid (w.heap.size ≤ g) := Lib.hid hg0
  clear htm ho hb hck hpt ha hA hrr
  generalize sidesL (restB hs (mid hs)) hs.length = R at *
  have L1 := Lib.hid (show R.length ≤ 1000 by omega)
  have l9 : R.length ≤ 12 := by omega
  clear l1
  go_wp2_with fail
  refine hOW.out.mono ?_
  rintro e w2 ⟨v1, rfl, o1, hb⟩
  obtain ⟨g1, c3, rfl, hg1, _, hpt1, hcc1⟩ := o1.someOf (by omega)
  have hg1l := hpt1.lt
  have HP2 := Lib.hid (HP.out.grow hb)
  have PC2 := Lib.hid hpt1
  have T2 := Lib.hid (Below.andThen T1.out hb (Nat.le_refl _))
  clear hb T1 HP hOW o1 hpt1
  go_wp2_with fail
  refine (HT.out w2 HP2.out).mono ?_
  rintro e w3 ⟨v2, rfl, o2, hb⟩
  have o2' := o2
  unfold OwnP at o2'
  rw [List.length_map] at o2'
  obtain ⟨gt, ct, rfl, hgt, hct, hbt⟩ := blk_row o2' (by omega)
  have BT3 := Lib.hid hbt
  have HP3 := Lib.hid (HP2.out.grow hb)
  have PC3 := Lib.hid (PC2.out.grow hb)
  have T3 := Lib.hid (Below.andThen T2.out hb (Nat.le_refl _))
  have hgtl := hbt.lt
  clear hb T2 HP2 PC2 o2 o2' hbt
  go_wp2_with fail
  refine (HR.out w3 HP3.out).mono ?_
  rintro e w4 ⟨v3, rfl, o3, hb⟩
  have HP4 := Lib.hid (HP3.out.grow hb)
  have PC4 := Lib.hid (PC3.out.grow hb)
  have BT4 := Lib.hid (BT3.out.grow hb)
  have T4 := Lib.hid (Below.andThen T3.out hb (Nat.le_refl _))
  have O3 := Lib.hid o3
  have S4 := Lib.hid hb.size
  clear hb T3 HP3 PC3 BT3 o3
  go_wp2_with fail
  refine (HA.out w4 HP4.out).mono ?_
  rintro e w5 ⟨L, hL, hsr, hne, hb, hres⟩
  have h3R := HAH.out L hL hsr
  rcases hres with ⟨_, v4, rfl, o4⟩ | ⟨hlt, _⟩
  case inr => omega
  obtain ⟨A, hA⟩ : ∃ A, arnd (dd L) = A := ⟨_, rfl⟩
  rw [hA] at o4 h3R
  obtain ⟨gh, ch, rfl, hgh, _, hpth, hch⟩ := o4.someOf (by omega)
  obtain ⟨gh', ch', he, _, hch2, hbh⟩ := blk_row o4 (by omega)
  cases he
  have HP5 := Lib.hid (HP4.out.grow hb)
  have PC5 := Lib.hid (PC4.out.grow hb)
  have BT5 := Lib.hid (BT4.out.grow hb)
  have T5 := Lib.hid (Below.andThen T4.out hb (Nat.le_refl _))
  have O5 := Lib.hid (own_grow O3.out hb)
  have BH5 := Lib.hid hbh
  have S5 := Lib.hid hb.size
  obtain ⟨ga, ca, rfl, hga, hca, hba⟩ := blk_row (own_grow O3.out hb) (by omega)
  rw [Nat.mul_one] at hba
  have BA5 := Lib.hid hba
  have hgal : ga < w4.heap.size := by
    obtain ⟨_, _, h, _, _, h2⟩ := blk_row O3.out (by omega)
    cases h
    exact h2.lt
  have hAm : A.length ≤ 24 := by
    have hle := hL.length_eq
    rw [← hA]
    unfold arnd
    rw [List.length_append, List.length_dropLast, List.length_dropLast, List.length_reverse, List.length_reverse]
    have k1 := foldl_left_len (dd L) []
    have k2 := foldl_left_len (dd L).reverse []
    have k3 := dd_len L
    rw [List.length_nil] at k1 k2
    rw [List.length_reverse] at k2
    omega
  have n1 : g ≠ gt := by omega
  have n2 : g1 ≠ gt := by omega
  have n3 : ga ≠ gt := by omega
  have n4 : gh ≠ gt := by omega
  have n5 : gh ≠ ga := by omega
  have n6 : g ≠ ga := by omega
  have n7 : g1 ≠ ga := by omega
  have n8 : g ≠ gh := by omega
  have n9 : g1 ≠ gh := by omega
  have N := Lib.hid (And.intro n1 (And.intro n2 (And.intro n3 (And.intro n4 (And.intro n5 (And.intro n6 (And.intro n7 (And.intro n8 n9))))))))
  have Z := Lib.hid (show w.heap.size ≤ gt ∧ w.heap.size ≤ ga ∧ w.heap.size ≤ gh ∧ w.heap.size ≤ w5.heap.size by have := S1.out; have := hb.size; omega)
  clear hb T4 HP4 PC4 BT4 O3 o4 hpth hbh hA hL hsr hne hba n1 n2 n3 n4 n5 n6 n7 n8 n9 O5
  go_wp2_with fail
  go_loopw [13] (fun i wr => ∃ k : Nat, k ≤ hs.length ∧ i = .int .i64 (k : Int) ∧ Hid (Blk wr gt 58 (ct * 2)) ∧ Hid (w5.grownBy wr (some gt))) (fun i _ => hs.length - (intOf i).toNat)
  case atStart => exact ⟨0, by omega, rfl, BT5, Lib.hid (grownBy_refl _ _)⟩
  case round =>
    obtain ⟨k, hk, rfl, BT, GT⟩ := hrel
    by_cases hlt : k < hs.length
    · have hd : decide ((k : Int) < (hs.length : Int)) = true := decide_eq_true (by omega)
      have hd' : decide (k < hs.length) = true := decide_eq_true (by omega)
      have hkw : IntKind.i64.wrap ((k : Int) + 1) = (k : Int) + 1 := i64_of _ (by omega) (by omega)
      obtain ⟨y0, c0⟩ := BT.out.cell (i := k * 2) (by omega)
      obtain ⟨y1, c1⟩ := (BT.out.set (k * 2) (.int .i64 99)).cell (i := k * 2 + 1) (by omega)
      obtain ⟨y2, c4⟩ := BT.out.cell (i := k * 2 + 1) (by omega)
      have f0 := BT.out.frozen (k * 2)
      have f2 := BT.out.frozen (k * 2 + 1)
      have f1 := (BT.out.set (k * 2) (.int .i64 99)).frozen (k * 2 + 1)
      have BT' := Lib.hid ((BT.out.set (k * 2) (.int .i64 99)).set (k * 2 + 1) (.int .i64 99))
      have GT' := Lib.hid ((GT.out.trans (grown_set _ ⟨gt, k * 2, none⟩ (.int .i64 99))).trans (grown_set _ ⟨gt, k * 2 + 1, none⟩ (.int .i64 99)))
      clear BT GT
      go_wp2_with fail
      exact ⟨⟨k + 1, by omega, by simp, BT', GT'⟩, by simp [intOf]; omega⟩
    · have hd : decide ((k : Int) < (hs.length : Int)) = false := decide_eq_false (by omega)
      have HP6 := Lib.hid (HP5.out.kept GT.out N.out.1)
      have PC6 := Lib.hid (PC5.out.kept GT.out N.out.2.1)
      have BA6 := Lib.hid (BA5.out.kept GT.out N.out.2.2.1)
      have BH6 := Lib.hid (BH5.out.kept GT.out N.out.2.2.2.1)
      have T6 := Lib.hid (T5.out.trans (below_of_grown GT.out Z.out.1 Z.out.2.2.2))
      have Z6 := Lib.hid (Nat.le_trans Z.out.2.2.2 GT.out.size)
      clear BT GT HP5 PC5 BA5 BH5 T5 BT5 S5
      generalize hw0 : wr = w6 at *
      clear hw0
      go_wp2_with fail
      go_loopw [14] (fun i wr => ∃ k : Nat, k ≤ R.length ∧ i = .int .i64 (k : Int) ∧ Hid (Blk wr ga 3 ca) ∧ Hid (w6.grownBy wr (some ga))) (fun i _ => R.length - (intOf i).toNat)
      case atStart => exact ⟨0, by omega, rfl, BA6, Lib.hid (grownBy_refl _ _)⟩
      case round =>
        obtain ⟨k, hk, rfl, BT, GT⟩ := hrel
        by_cases hlt : k < R.length
        · have hd : decide ((k : Int) < (R.length : Int)) = true := decide_eq_true (by omega)
          have hd' : decide (k < R.length) = true := decide_eq_true (by omega)
          have hkw : IntKind.i64.wrap ((k : Int) + 1) = (k : Int) + 1 := i64_of _ (by omega) (by omega)
          obtain ⟨y0, c0⟩ := BT.out.cell (i := k) (by omega)
          have f0 := BT.out.frozen k
          have BT' := Lib.hid (BT.out.set k (.int .i64 (-7)))
          have GT' := Lib.hid (GT.out.trans (grown_set _ ⟨ga, k, none⟩ (.int .i64 (-7))))
          clear BT GT
          go_wp2_with fail
          exact ⟨⟨k + 1, by omega, by simp, BT', GT'⟩, by simp [intOf]; omega⟩
        · have hd : decide ((k : Int) < (R.length : Int)) = false := decide_eq_false (by omega)
          have HP7 := Lib.hid (HP6.out.kept GT.out N.out.2.2.2.2.2.1)
          have PC7 := Lib.hid (PC6.out.kept GT.out N.out.2.2.2.2.2.2.1)
          have BH7 := Lib.hid (BH6.out.kept GT.out N.out.2.2.2.2.1)
          have T7 := Lib.hid (T6.out.trans (below_of_grown GT.out Z.out.2.1 Z6.out))
          have Z7 := Lib.hid (Nat.le_trans Z6.out GT.out.size)
          clear BT GT HP6 PC6 BA6 BH6 T6 Z6
          generalize hw0 : wr = w7 at *
          clear hw0
          go_wp2_with fail
          go_loopw [15] (fun i wr => ∃ k : Nat, k ≤ A.length ∧ i = .int .i64 (k : Int) ∧ Hid (Blk wr gh 58 (ch * 2)) ∧ Hid (w7.grownBy wr (some gh))) (fun i _ => A.length - (intOf i).toNat)
          case atStart => exact ⟨0, by omega, rfl, BH7, Lib.hid (grownBy_refl _ _)⟩
          case round =>
            obtain ⟨k, hk, rfl, BT, GT⟩ := hrel
            by_cases hlt : k < A.length
            · have hd : decide ((k : Int) < (A.length : Int)) = true := decide_eq_true (by omega)
              have hd' : decide (k < A.length) = true := decide_eq_true (by omega)
              have hkw : IntKind.i64.wrap ((k : Int) + 1) = (k : Int) + 1 := i64_of _ (by omega) (by omega)
              obtain ⟨y0, c0⟩ := BT.out.cell (i := k * 2) (by omega)
              obtain ⟨y1, c1⟩ := (BT.out.set (k * 2) (.int .i64 99)).cell (i := k * 2 + 1) (by omega)
              obtain ⟨y2, c4⟩ := BT.out.cell (i := k * 2 + 1) (by omega)
              have f0 := BT.out.frozen (k * 2)
              have f2 := BT.out.frozen (k * 2 + 1)
              have f1 := (BT.out.set (k * 2) (.int .i64 99)).frozen (k * 2 + 1)
              have BT' := Lib.hid ((BT.out.set (k * 2) (.int .i64 99)).set (k * 2 + 1) (.int .i64 99))
              have GT' := Lib.hid ((GT.out.trans (grown_set _ ⟨gh, k * 2, none⟩ (.int .i64 99))).trans (grown_set _ ⟨gh, k * 2 + 1, none⟩ (.int .i64 99)))
              clear BT GT
              go_wp2_with fail
              exact ⟨⟨k + 1, by omega, by simp, BT', GT'⟩, by simp [intOf]; omega⟩
            · have hd : decide ((k : Int) < (A.length : Int)) = false := decide_eq_false (by omega)
              have HP8 := Lib.hid (HP7.out.kept GT.out N.out.2.2.2.2.2.2.2.1)
              have PC8 := Lib.hid (PC7.out.kept GT.out N.out.2.2.2.2.2.2.2.2)
              have T8 := Lib.hid (T7.out.trans (below_of_grown GT.out Z.out.2.2.1 Z7.out))
              clear BT GT HP7 PC7 BH7 T7 Z7
              generalize hw0 : wr = w8 at *
              clear hw0
              go_wp2_with fail
              refine (HR.out w8 HP8.out).mono ?_
              rintro e w9 ⟨v, rfl, o9, hb⟩
              have HP9 := Lib.hid (HP8.out.grow hb)
              have PC9 := Lib.hid (PC8.out.grow hb)
              have T9 := Lib.hid (Below.andThen T8.out hb (Nat.le_refl _))
              have O9 := Lib.hid o9
              clear hb HP8 PC8 T8 o9
              go_wp2_with fail
              refine (HT.out w9 HP9.out).mono ?_
              rintro e w10 ⟨v5, rfl, o10, hb⟩
              have HP10 := Lib.hid (HP9.out.grow hb)
              have PC10 := Lib.hid (PC9.out.grow hb)
              have T10 := Lib.hid (Below.andThen T9.out hb (Nat.le_refl _))
              have O10 := Lib.hid (own_grow O9.out hb)
              obtain ⟨a5, c5, rfl, _⟩ := o10.open
              have U10 := Lib.hid o10.pts
              have HPR := pairs_any hs hs (some ⟨g, 0, none⟩) (some ⟨g1, 0, none⟩) c2 c3 w10 (.inr ⟨g, 0, rfl, HP10.out, hcc⟩) (.inr ⟨g1, 0, rfl, PC10.out, hcc1⟩) rfl (by omega)
              rw [decide_eq_true rfl] at HPR
              have HPR := Lib.hid HPR
              clear hb HP9 PC9 T9 O9 o10
              go_wp2_with fail
              refine HPR.out.mono ?_
              rintro e w11 ⟨rfl, hb⟩
              have PC11 := Lib.hid (PC10.out.grow hb)
              have T11 := Lib.hid (Below.andThen T10.out hb (Nat.le_refl _))
              have O11 := Lib.hid (own_grow O10.out hb)
              have U11 := Lib.hid (U10.out.grow hb)
              clear hb HP10 PC10 T10 O10 U10 HPR
              go_wp2_with fail
              refine (HRR.out w11 g1 c3 PC11.out).mono ?_
              rintro e w12 ⟨v6, rfl, o12, hb⟩
              have PC12 := Lib.hid (PC11.out.grow hb)
              have T12 := Lib.hid (Below.andThen T11.out hb (Nat.le_refl _))
              have U12 := Lib.hid (U11.out.grow hb)
              have I12 := Lib.hid (ints_own (own_grow O11.out hb) o12 L1.out)
              clear hb PC11 T11 O11 U11 o12
              go_wp2_with fail
              refine I12.out.mono ?_
              rintro e w13 ⟨rfl, hb⟩
              have PC13 := Lib.hid (PC12.out.grow hb)
              have T13 := Lib.hid (Below.andThen T12.out hb (Nat.le_refl _))
              have U13 := Lib.hid (U12.out.grow hb)
              clear hb PC12 T12 U12 I12
              go_wp2_with fail
              refine (HRT.out w13 g1 c3 PC13.out).mono ?_
              rintro e w14 ⟨v7, rfl, o14, hb⟩
              have T14 := Lib.hid (Below.andThen T13.out hb (Nat.le_refl _))
              obtain ⟨a7, c7, rfl, _⟩ := o14.open
              have HPR := pairs_any (hs.map turnP) (hs.map turnP) a5 a7 c5 c7 w14 (U13.out.grow hb) o14.pts rfl (by rw [List.length_map]; omega)
              rw [decide_eq_true rfl, List.length_map] at HPR
              have HPR := Lib.hid HPR
              clear hb PC13 T13 U13 o14
              go_wp2_with fail
              refine HPR.out.mono ?_
              rintro e w15 ⟨rfl, hb⟩
              have T15 := Lib.hid (Below.andThen T14.out hb (Nat.le_refl _))
              clear hb T14 HPR
              go_wp2_with fail
              refine (awake_any _).mono ?_
              rintro e w16 ⟨rfl, hb⟩
              have T16 := Lib.hid (Below.andThen T15.out hb (Nat.le_refl _))
              clear hb T15
              go_wp2_with fail
              go_ret
              exact ⟨rfl, T16.out⟩
end Go.Proofs.Ytlehddifcjklgaa
