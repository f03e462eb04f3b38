import Derived.Test.YtlehddifcjklgaaS
import Derived.Maps.OwnIn
import Derived.Maps.OwnSet
import Derived.Maps.AppendAt
import Derived.RangeFuncNested
import Derived.RangeFuncBound
import Derived.RangeFuncCalls
import Derived.RangeFuncLeaves
import Derived.Shelf.Abstract
import Derived.Shelf.RegionOpen
import Derived.WalkKit
import Derived.OwnWalkIn
import Derived.TacticsInMore
import Derived.LoopNIn
import Derived.LoopIn
import Derived.WalkMore
import Derived.Sort.QuietThIn
import Derived.Sort.QuietTacIn
import Derived.Sort.BigQuietIn
import Derived.WalkSpells
import Derived.WalkLawsBesides
import Derived.BigQuiet
import Derived.Deep.QuietTactic
import Derived.Lib.Hide
import Derived.Deep.RegionHeld3
import Derived.StillTailTactics
import Derived.Deep.LoopGhost
import Derived.Lib.IndexAny
namespace Go.Proofs.Ytlehddifcjklgaa
open Go.RowKit Go.Shelf
attribute [local go_sem] Oper.semAt_some
theorem height_bd {ps : List Pt} {X Y D : Int} {s : Nat} (ha : areP ps = true) (hs : s < ps.length) (hX : Bd 400000 X) (hY : Bd 400000 Y) (hD : Bd 30000 D) :
    Bd 10000000000000000 (height ps (X, Y, D) s).1 ∧ Bd 3200 (height ps (X, Y, D) s).2 := by
  obtain ⟨hax, hay⟩ := alongS_bd ha hs
  obtain ⟨hcx, hcy⟩ := ptAt_bd ha hs
  obtain ⟨hix, hiy⟩ := inw_bd hX hY hD hcx hcy
  have j1 : Bd 100000000 (heightH ps (X, Y, D) s) := ((hax.mul hiy).add (hay.neg.mul hix)).mono (by omega)
  exact frac_bd ((j1.mul j1).mono (by omega)) (((hax.mul hax).add (hay.mul hay)).mono (by omega))
theorem frac_den {n d : Int} (h : 0 < d) : 0 < (frac n d).2 := tdiv_pos h (gcdI_pos h) (gcdI_dvd_right _ _)
theorem height_den {ps : List Pt} {m : Int × Int × Int} {s : Nat} (ha : areP ps = true) (hs : s < ps.length) (hne : 0 < dt (alongS ps s) (alongS ps s)) : 0 < (height ps m s).2 := frac_den hne
/-- each operation waits for earlier ones alone, of the edges that bind -/
def waitsC (l : List Oper) : Bool := (List.range l.length).all fun i => ((l[i]?).map fun o => o.after.all fun e => !Region.binds .any e || decide (e.on < i)).getD true
section
variable {P : Program} {Q : Exit → Act → World → Prop}
/-- a region whose order is open, by an invariant over what has come up -/
theorem wp_region_inv2 {id : Nat} {a : Act} {w : World} {l : List Oper} (hm : P.follows .mixedOrders = true) (hd : waitsC l = true) (I : List Bool → Act → World → Prop) (h0 : I (List.replicate l.length false) a w.drew)
    (hstep : ∀ (i : Nat) (o : Oper) (bs : List Bool) (a : Act) (w : World), l[i]? = some o → I bs a w → bs.length = l.length → bs[i]? = some false → (∀ e ∈ o.after, Region.binds .any e = true → bs.getD e.on false = true) →
      wpOp P l.toArray Q i (fun a' w' => I (bs.set i true) a' w') a w)
    (hend : ∀ a w, I (List.replicate l.length true) a w → Q .normal a w) : (Code.region id l.toArray true).wp P Q a w := by
  refine wp_region_any hm ?_
  have key : ∀ (fuel : Nat) (bs : List Bool) (a : Act) (w : World), bs.length = l.length → (bs.filter (! ·)).length ≤ fuel → I bs a w → wpAny P .any l.toArray Q fuel bs.toArray a w := by
    intro fuel
    induction fuel with
    | zero =>
      intro bs a w hl hf hI
      have hall : bs = List.replicate l.length true := by
        rw [List.eq_replicate_iff]
        refine ⟨hl, fun b hb => ?_⟩
        cases b with
        | true => rfl
        | false =>
          have : false ∈ bs.filter (! ·) := List.mem_filter.2 ⟨hb, rfl⟩
          have := List.length_pos_of_mem this; omega
      subst hall
      refine ⟨?_, hend a w hI⟩
      cases hr : Region.ready .any l.toArray (List.replicate l.length true).toArray with
      | nil => rfl
      | cons j js =>
        have hj : j ∈ Region.ready .any l.toArray (List.replicate l.length true).toArray := by rw [hr]; exact List.mem_cons_self
        obtain ⟨h1, o, h2, _⟩ := mem_ready.1 hj
        have hlt : j < l.length := by have := (List.getElem?_eq_some_iff.1 (by simpa using h2 : l[j]? = some o)).1; exact this
        simp [Array.getD, hlt] at h1
    | succ fuel ih =>
      intro bs a w hl hf hI
      have hset : ∀ (i : Nat), (bs.toArray.setIfInBounds i true) = (bs.set i true).toArray := fun i => by simp
      by_cases hall : bs = List.replicate l.length true
      · subst hall
        refine ⟨fun _ => hend a w hI, fun j hj => ?_⟩
        obtain ⟨h1, o, h2, _⟩ := mem_ready.1 hj
        have hlt : j < l.length := by have := (List.getElem?_eq_some_iff.1 (by simpa using h2 : l[j]? = some o)).1; exact this
        simp [Array.getD, hlt] at h1
      · refine ⟨fun hr => ?_, fun j hj => ?_⟩
        · exfalso
          have hex : ∃ b ∈ bs, (!b) = true := by
            false_or_by_contra
            rename_i hno
            refine hall (List.eq_replicate_iff.2 ⟨hl, fun b hb => ?_⟩)
            cases b with
            | true => rfl
            | false => exact absurd ⟨false, hb, rfl⟩ hno
          have hlt : bs.findIdx (! ·) < bs.length := List.findIdx_lt_length.2 hex
          have hf0 : bs[bs.findIdx (! ·)] = false := by have := List.findIdx_getElem (w := hlt); simpa using this
          have hlt2 : bs.findIdx (! ·) < l.length := by omega
          have hmem : bs.findIdx (! ·) ∈ Region.ready .any l.toArray bs.toArray := by
            refine mem_ready.2 ⟨by simp [Array.getD, hlt, hf0], l[bs.findIdx (! ·)], by simp [hlt2], fun e he hbd => ?_⟩
            unfold waitsC at hd
            rw [List.all_eq_true] at hd
            have h1 := hd _ (List.mem_range.2 hlt2)
            rw [List.getElem?_eq_getElem hlt2] at h1
            simp only [Option.map_some, Option.getD_some] at h1
            have h2 := (Array.all_eq_true'.1 h1) e he
            rw [hbd] at h2
            have h3 : e.on < bs.findIdx (! ·) := by simpa using h2
            have h4 : e.on < bs.length := by omega
            have h5 := List.not_of_lt_findIdx h3
            simp [Array.getD, h4]
            simpa using h5
          rw [hr] at hmem; cases hmem
        · obtain ⟨h1, o, h2, h3⟩ := mem_ready.1 hj
          have h2' : l[j]? = some o := by simpa using h2
          have hlt : j < l.length := (List.getElem?_eq_some_iff.1 h2').1
          have hb : bs[j]? = some false := by
            rw [List.getElem?_eq_getElem (by omega)]
            simp [Array.getD, show j < bs.length by omega] at h1
            rw [h1]
          refine wpOp_mono (fun a' w' h => ?_) (hstep j o bs a w h2' hI hl hb (fun e he hb => by have := h3 e he hb; rw [List.getD_eq_getElem?_getD]; simp only [Array.getD, List.size_toArray] at this; split at this <;> simp_all))
          rw [hset]
          have := filter_set bs j hb
          exact ih _ _ _ (by simpa using hl) (by omega) h
  have := key l.length (List.replicate l.length false) a w.drew (by simp) (by simp) h0
  simpa using this
/-- the same, with the slots that the region writes told apart -/
theorem wp_region_slots2 {id : Nat} {a : Act} {w : World} {l : List Oper} (hm : P.follows .mixedOrders = true) (hd : waitsC l = true) (slots : List Nat) (J : List Bool → List Value → World → Prop)
    (h0 : ∃ vs, a = putAll a slots vs ∧ J (List.replicate l.length false) vs w.drew)
    (hstep : ∀ (i : Nat) (o : Oper) (bs : List Bool) (vs : List Value) (w : World) (K : Act → World → Prop), l[i]? = some o → J bs vs w → bs.length = l.length → bs[i]? = some false → (∀ e ∈ o.after, Region.binds .any e = true → bs.getD e.on false = true) →
      (∀ vs' w', J (bs.set i true) vs' w' → K (putAll a slots vs') w') → wpOp P l.toArray Q i K (putAll a slots vs) w)
    (hend : ∀ vs w, J (List.replicate l.length true) vs w → Q .normal (putAll a slots vs) w) : (Code.region id l.toArray true).wp P Q a w := by
  refine wp_region_inv2 hm hd (fun bs a' w' => ∃ vs, a' = putAll a slots vs ∧ J bs vs w') h0 ?_ ?_
  · rintro i o bs a' w' ho ⟨vs, rfl, hJ⟩ hl hb hw
    exact hstep i o bs vs w' _ ho hJ hl hb hw (fun vs' w'' h => ⟨vs', rfl, h⟩)
  · rintro a' w' ⟨vs, rfl, hJ⟩
    exact hend vs w' hJ
end
structure LeanJ (W0 : World) (BV : Value) (s : Nat) (B6 : Nat) (hn hd D : Int) (b0 b1 b2 b3 b4 b5 b6 b7 b8 : Bool) (x0 x1 x2 x3 x4 x5 x6 x7 : Value) (W : World) : Prop where
  below : Below W0.heap.size W0 W
  s0 : b0 = true → x0 = BV
  s1 : b1 = true → x1 = .int .i64 (s : Int)
  s2 : b2 = true → x2 = .agg #[.int .i64 hn, .int .i64 hd]
  s3 : b3 = true → x3 = .pointer (some ⟨B6, 1, none⟩)
  s4 : b4 = true → x4 = .pointer (some ⟨B6, 3, none⟩)
  s5 : b5 = true → x5 = .int .i64 D
  s6 : b6 = true → ∃ p, x6 = .pointer (some ⟨p, 0, none⟩) ∧ W0.heap.size ≤ p ∧ Row W p 88 [.int .i64 (if b7 then hn else 0), .int .i64 (if b7 then hd else 0)]
  s8 : b8 = true → x7 = .int .i64 D
  o : b7 = true → b6 = true
def leanJ (W0 : World) (BV : Value) (s B6 : Nat) (hn hd D : Int) (bs : List Bool) (vs : List Value) (W : World) : Prop :=
  ∃ b0 b1 b2 b3 b4 b5 b6 b7 b8 x0 x1 x2 x3 x4 x5 x6 x7, bs = [b0, b1, b2, b3, b4, b5, b6, b7, b8] ∧ vs = [x0, x1, x2, x3, x4, x5, x6, x7] ∧ LeanJ W0 BV s B6 hn hd D b0 b1 b2 b3 b4 b5 b6 b7 b8 x0 x1 x2 x3 x4 x5 x6 x7 W
theorem leanJ_start (W0 : World) (BV : Value) (s B6 : Nat) (hn hd D : Int) (x0 x1 x2 x3 x4 x5 x6 x7 : Value) (W : World) (h : Below W0.heap.size W0 W) :
    leanJ W0 BV s B6 hn hd D (List.replicate 9 false) [x0, x1, x2, x3, x4, x5, x6, x7] W :=
  ⟨false, false, false, false, false, false, false, false, false, x0, x1, x2, x3, x4, x5, x6, x7, rfl, rfl, { below := h, s0 := (fun h => by cases h), s1 := (fun h => by cases h), s2 := (fun h => by cases h), s3 := (fun h => by cases h), s4 := (fun h => by cases h), s5 := (fun h => by cases h), s6 := (fun h => by cases h), s8 := (fun h => by cases h), o := (fun h => by cases h) }⟩
section
variable {W0 : World} {BV : Value} {s B6 : Nat} {hn hd D : Int} {b0 b1 b2 b3 b4 b5 b6 b7 b8 : Bool} {x0 x1 x2 x3 x4 x5 x6 x7 : Value} {W : World}
theorem leanJ_mk (h : LeanJ W0 BV s B6 hn hd D b0 b1 b2 b3 b4 b5 b6 b7 b8 x0 x1 x2 x3 x4 x5 x6 x7 W) : leanJ W0 BV s B6 hn hd D [b0, b1, b2, b3, b4, b5, b6, b7, b8] [x0, x1, x2, x3, x4, x5, x6, x7] W :=
  ⟨_, _, _, _, _, _, _, _, _, _, _, _, _, _, _, _, _, rfl, rfl, h⟩
theorem LeanJ.grow {W' : World} (J : LeanJ W0 BV s B6 hn hd D b0 b1 b2 b3 b4 b5 b6 b7 b8 x0 x1 x2 x3 x4 x5 x6 x7 W) (hb : Below W.heap.size W W') : LeanJ W0 BV s B6 hn hd D b0 b1 b2 b3 b4 b5 b6 b7 b8 x0 x1 x2 x3 x4 x5 x6 x7 W' :=
  { J with
    below := Below.andThen J.below hb (Nat.le_refl _)
    s6 := fun h => let ⟨p, h1, h2, h3⟩ := J.s6 h; ⟨p, h1, h2, h3.below hb h3.lt⟩ }
end
set_option maxRecDepth 100000 in
set_option maxHeartbeats 2000000 in
theorem Lean_any (ps : List Pt) (b c s : Nat) (w : World) (hp : PtsAt w b 0 ps) (hck : chk ps = true) (hD0 : 0 < area ps) (hs : s < ps.length) :
    Calls Try.prog 30 #[.slice (some ⟨b, 0, none⟩) ps.length c, .int .i64 (s : Int)] w fun e w' => e = .returned (.tuple #[.agg #[.int .i64 (leanF ps (mid ps) s).1, .int .i64 (leanF ps (mid ps) s).2], .int .i64 0]) ∧ Below w.heap.size w w' := by
  have ha : areP ps = true := by unfold chk at hck; exact (Bool.and_eq_true _ _ ▸ hck : _ ∧ _).1
  obtain ⟨h3, h12⟩ := areP_len ha
  have HM := Lib.hid (fun W g s (hg : g < W.heap.size) hgc hs (h : PtsAt W b 0 ps) => bodyOf_one ps b c W g s hg hgc hs h hck hD0)
  obtain ⟨m1, m2, m3, m4⟩ := mid_facts ha hD0
  have HH := Lib.hid (fun W (h : PtsAt W b 0 ps) => height_any ps b c (mid ps).1 (mid ps).2.1 (mid ps).2.2 s W h ha hs m1 m2 m3 m4 (along_pos hck hs))
  have hb1 := height_bd ha hs m1 m2 m3
  have hb2 := height_den ha hs (along_pos hck hs) (m := mid ps)
  have em : ((mid ps).1, (mid ps).2.1, (mid ps).2.2) = mid ps := rfl
  rw [em] at HH hb1
  have fin : leanF ps (mid ps) s = frac (height ps (mid ps) s).1 ((height ps (mid ps) s).2 * (mid ps).2.2 * (mid ps).2.2) := rfl
  obtain ⟨hn, hd, hh⟩ : ∃ hn hd, height ps (mid ps) s = (hn, hd) := ⟨_, _, rfl⟩
  rw [hh] at HH hb1 hb2 fin
  dsimp only at HH hb1 hb2 fin
  have j1 := (hb1.2.mul m3)
  have j2 := j1.mul m3
  have j3 : 0 < hd * (mid ps).2.2 * (mid ps).2.2 := Int.mul_pos (Int.mul_pos hb2 m4) m4
  obtain ⟨X, hX⟩ : ∃ X, (mid ps).1 = X := ⟨_, rfl⟩
  obtain ⟨Y, hY⟩ : ∃ Y, (mid ps).2.1 = Y := ⟨_, rfl⟩
  obtain ⟨D, hD⟩ : ∃ D, (mid ps).2.2 = D := ⟨_, rfl⟩
  rw [hX, hY, hD] at HM HH
  rw [hD] at j1 j2 j3 fin
  have hFR := fractionOf64_any hn (hd * D * D)
  obtain ⟨fn, fd, hfr⟩ : ∃ fn fd, frac hn (hd * D * D) = (fn, fd) := ⟨_, _, rfl⟩
  rw [hfr] at hFR fin
  dsimp only at hFR
  rw [fin]
  dsimp only
  have e1 : IntKind.i64.wrap (hd * D) = hd * D := i64_bd j1 (by omega)
  have e2 : IntKind.i64.wrap (hd * D * D) = hd * D * D := i64_bd j2 (by omega)
  have HFR := Lib.hid (fun W => hFR W (hb1.1.mono (by omega)) (j2.mono (by omega)) j3)
  have HP := Lib.hid hp
  have HS := Lib.hid hs
  clear hp hck hD0 m1 m2 m3 m4 hX hY hD em fin hh hfr hFR hb1 hb2 j1 j2 j3 ha hs
  go_enter Try.func30, Try.ntmps30
  go_wp2_with fail
  obtain ⟨W0, hW0⟩ : ∃ W0, W0 = w.alloc (.cells #[.int .i64 0, .int .i64 0] 39) := ⟨_, rfl⟩
  have B0 := Lib.hid (show Below w.heap.size w W0 by rw [hW0]; exact (Below.refl _ _).alloc (Nat.le_refl _) _)
  have l0 : w.heap.size < W0.heap.size := by rw [hW0]; simp
  have r0 := Lib.hid (show Row W0 w.heap.size 39 [.int .i64 0, .int .i64 0] by rw [hW0]; exact Row.new _ _ _)
  have sz := Lib.hid (show W0.heap.size = w.heap.size + 1 by rw [hW0]; simp)
  rw [← hW0]
  clear hW0
  refine (HM.out _ (w.heap.size + 1) s (by simp [sz.out]) (by rw [← sz.out]; simp [cell_al]) HS.out (HP.out.grow (Below.al B0.out (Nat.le_refl _) _))).mono ?_
  rintro e w1 ⟨rfl, hb1⟩
  have hb1' : Below W0.heap.size W0 w1 := ((Below.refl _ _).alloc (Nat.le_refl _) _).trans (hb1.mono (by simp))
  obtain ⟨V, hV⟩ : ∃ V, V = w1.alloc (.cells #[.slice (some ⟨b, 0, none⟩) ps.length c, .int .i64 X, .int .i64 Y, .int .i64 D] 81) := ⟨_, rfl⟩
  have BV := Lib.hid (show Below W0.heap.size W0 V by rw [hV]; exact Below.al hb1' (Nat.le_refl _) _)
  have rb := Lib.hid (show Row V w1.heap.size 81 [.slice (some ⟨b, 0, none⟩) ps.length c, .int .i64 X, .int .i64 Y, .int .i64 D] by rw [hV]; exact Row.new _ _ _)
  have l6 : w1.heap.size < V.heap.size := by rw [hV]; simp
  have hBw : Below w.heap.size w V := Below.andThen B0.out BV.out (Nat.le_refl _)
  have HPV := Lib.hid (HP.out.grow hBw)
  have HBW := Lib.hid hBw
  clear hb1 hb1' hBw
  go_wp2_with fail
  rw [← hV]
  clear hV
  refine wp_region_slots2 (by kernel_rfl) (by kernel_rfl) [22, 23, 24, 25, 26, 27, 8, 9] (leanJ V (.agg #[.slice (some ⟨b, 0, none⟩) ps.length c, .int .i64 X, .int .i64 Y, .int .i64 D]) s w1.heap.size hn hd D) ⟨[undef, undef, undef, undef, undef, undef, undef, undef], by simp only [putAll, Act.put, List.setIfInBounds_toArray, List.set_cons_succ, List.set_cons_zero], leanJ_start _ _ _ _ _ _ _ _ _ _ _ _ _ _ _ _ (Below.refl _ _).drew⟩ ?_ ?_
  · rintro i o bs vs W K ho ⟨b0, b1, b2, b3, b4, b5, b6, b7, b8, x0, x1, x2, x3, x4, x5, x6, x7, rfl, rfl, J⟩ _ hb hw hK
    have HK := Lib.hid hK
    have HJ := Lib.hid J
    have HW := Lib.hid hw
    clear hK J hw
    match i with
      | 0 =>
        obtain rfl : _ = o := Option.some.inj ho
        obtain ⟨q0, q1, q2, q3⟩ := body_cells (rb.out.below HJ.out.below l6)
        refine wpOp_of_list rfl ?_
        simp only [putAll, Act.put, List.setIfInBounds_toArray, List.set_cons_succ, List.set_cons_zero]
        clear hb ho
        go_wp2_with fail
        have fin := HK.out [(.agg #[.slice (some ⟨b, 0, none⟩) ps.length c, .int .i64 X, .int .i64 Y, .int .i64 D]), x1, x2, x3, x4, x5, x6, x7] W (leanJ_mk { HJ.out with s0 := fun _ => rfl })
        simp only [putAll, Act.put, List.setIfInBounds_toArray, List.set_cons_succ, List.set_cons_zero] at fin
        exact fin
      | 1 =>
        obtain rfl : _ = o := Option.some.inj ho
        refine wpOp_of_list rfl ?_
        simp only [putAll, Act.put, List.setIfInBounds_toArray, List.set_cons_succ, List.set_cons_zero]
        clear hb ho
        go_wp2_with fail
        have fin := HK.out [x0, .int .i64 (s : Int), x2, x3, x4, x5, x6, x7] W (leanJ_mk { HJ.out with s1 := fun _ => rfl })
        simp only [putAll, Act.put, List.setIfInBounds_toArray, List.set_cons_succ, List.set_cons_zero] at fin
        exact fin
      | 2 =>
        obtain rfl : _ = o := Option.some.inj ho
        obtain rfl := HJ.out.s0 (HW.out ⟨0, .data⟩ (by simp) rfl)
        obtain rfl := HJ.out.s1 (HW.out ⟨1, .data⟩ (by simp) rfl)
        refine wpOp_of_list rfl ?_
        simp only [putAll, Act.put, List.setIfInBounds_toArray, List.set_cons_succ, List.set_cons_zero]
        clear hb ho
        go_wp2_with fail
        refine (HH.out W (HPV.out.grow HJ.out.below)).mono ?_
        rintro e W' ⟨rfl, hb'⟩
        have HG := Lib.hid (HJ.out.grow hb')
        clear hb'
        go_wp2_with fail
        have fin := HK.out [(.agg #[.slice (some ⟨b, 0, none⟩) ps.length c, .int .i64 X, .int .i64 Y, .int .i64 D]), .int .i64 (s : Int), .agg #[.int .i64 hn, .int .i64 hd], x3, x4, x5, x6, x7] W' (leanJ_mk { HG.out with s2 := fun _ => rfl })
        simp only [putAll, Act.put, List.setIfInBounds_toArray, List.set_cons_succ, List.set_cons_zero] at fin
        exact fin
      | 3 =>
        obtain rfl : _ = o := Option.some.inj ho
        refine wpOp_of_list rfl ?_
        simp only [putAll, Act.put, List.setIfInBounds_toArray, List.set_cons_succ, List.set_cons_zero]
        clear hb ho
        go_wp2_with fail
        have fin := HK.out [x0, x1, x2, .pointer (some ⟨w1.heap.size, 1, none⟩), x4, x5, x6, x7] W (leanJ_mk { HJ.out with s3 := fun _ => rfl })
        simp only [putAll, Act.put, List.setIfInBounds_toArray, List.set_cons_succ, List.set_cons_zero] at fin
        exact fin
      | 4 =>
        obtain rfl : _ = o := Option.some.inj ho
        obtain rfl := HJ.out.s3 (HW.out ⟨3, .data⟩ (by simp) rfl)
        refine wpOp_of_list rfl ?_
        simp only [putAll, Act.put, List.setIfInBounds_toArray, List.set_cons_succ, List.set_cons_zero]
        clear hb ho
        go_wp2_with fail
        have fin := HK.out [x0, x1, x2, .pointer (some ⟨w1.heap.size, 1, none⟩), .pointer (some ⟨w1.heap.size, 3, none⟩), x5, x6, x7] W (leanJ_mk { HJ.out with s4 := fun _ => rfl })
        simp only [putAll, Act.put, List.setIfInBounds_toArray, List.set_cons_succ, List.set_cons_zero] at fin
        exact fin
      | 5 =>
        obtain rfl : _ = o := Option.some.inj ho
        obtain rfl := HJ.out.s4 (HW.out ⟨4, .data⟩ (by simp) rfl)
        obtain ⟨q0, q1, q2, q3⟩ := body_cells (rb.out.below HJ.out.below l6)
        refine wpOp_of_list rfl ?_
        simp only [putAll, Act.put, List.setIfInBounds_toArray, List.set_cons_succ, List.set_cons_zero]
        clear hb ho
        go_wp2_with fail
        have fin := HK.out [x0, x1, x2, x3, .pointer (some ⟨w1.heap.size, 3, none⟩), .int .i64 D, x6, x7] W (leanJ_mk { HJ.out with s5 := fun _ => rfl })
        simp only [putAll, Act.put, List.setIfInBounds_toArray, List.set_cons_succ, List.set_cons_zero] at fin
        exact fin
      | 6 =>
        obtain rfl : _ = o := Option.some.inj ho
        have e6 : b6 = false := by simpa using hb
        have e7 : b7 = false := by
          cases h7 : b7 with
          | false => rfl
          | true => have := HJ.out.o h7; rw [e6] at this; cases this
        subst e7
        refine wpOp_of_list rfl ?_
        simp only [putAll, Act.put, List.setIfInBounds_toArray, List.set_cons_succ, List.set_cons_zero]
        clear hb ho
        go_wp2_with fail
        have fin := HK.out [x0, x1, x2, x3, x4, x5, .pointer (some ⟨W.heap.size, 0, none⟩), x7] (W.alloc (.cells #[.int .i64 0, .int .i64 0] 88)) (leanJ_mk { HJ.out.grow ((Below.refl _ _).alloc (Nat.le_refl _) (.cells #[.int .i64 0, .int .i64 0] 88)) with s6 := fun _ => ⟨_, rfl, HJ.out.below.size, Row.new W 88 [.int .i64 0, .int .i64 0]⟩, o := fun h => (by cases h) })
        simp only [putAll, Act.put, List.setIfInBounds_toArray, List.set_cons_succ, List.set_cons_zero] at fin
        exact fin
      | 7 =>
        obtain rfl : _ = o := Option.some.inj ho
        have e7 : b7 = false := by simpa using hb
        subst e7
        have e6 : b6 = true := HW.out ⟨6, .data⟩ (by simp) rfl
        obtain rfl := HJ.out.s2 (HW.out ⟨2, .data⟩ (by simp) rfl)
        obtain ⟨p, rfl, hp1, hp2⟩ := HJ.out.s6 e6
        have q0 := hp2.cell 0
        have q1 := hp2.cell 1
        have g0 := frozen_of_row _ p 0 _ _ hp2
        have g1 := frozen_of_row _ p 1 _ _ hp2
        simp only [List.getElem?_cons_zero, List.getElem?_cons_succ, Bool.false_eq_true, if_false] at q0 q1
        have HP2 := Lib.hid hp2
        have HP1 := Lib.hid hp1
        refine wpOp_of_list rfl ?_
        simp only [putAll, Act.put, List.setIfInBounds_toArray, List.set_cons_succ, List.set_cons_zero]
        clear hb ho hp2 hp1
        go_wp2_with fail
        have hrow : Row ((W.setCell ⟨p, 0, none⟩ (.int .i64 hn)).setCell ⟨p, 1, none⟩ (.int .i64 hd)) p 88 [.int .i64 hn, .int .i64 hd] := by
          simpa using (HP2.out.set 0 (.int .i64 hn)).set 1 (.int .i64 hd)
        have hbel : Below V.heap.size V ((W.setCell ⟨p, 0, none⟩ (.int .i64 hn)).setCell ⟨p, 1, none⟩ (.int .i64 hd)) :=
          (HJ.out.below.setCell (p := ⟨p, 0, none⟩) HP1.out _).setCell (p := ⟨p, 1, none⟩) HP1.out _
        have fin := HK.out [x0, x1, .agg #[.int .i64 hn, .int .i64 hd], x3, x4, x5, .pointer (some ⟨p, 0, none⟩), x7] ((W.setCell ⟨p, 0, none⟩ (.int .i64 hn)).setCell ⟨p, 1, none⟩ (.int .i64 hd)) (leanJ_mk { HJ.out with below := hbel, s6 := fun _ => ⟨p, rfl, HP1.out, by simpa using hrow⟩, o := fun _ => e6 })
        simp only [putAll, Act.put, List.setIfInBounds_toArray, List.set_cons_succ, List.set_cons_zero] at fin
        exact fin
      | 8 =>
        obtain rfl : _ = o := Option.some.inj ho
        obtain rfl := HJ.out.s5 (HW.out ⟨5, .data⟩ (by simp) rfl)
        refine wpOp_of_list rfl ?_
        simp only [putAll, Act.put, List.setIfInBounds_toArray, List.set_cons_succ, List.set_cons_zero]
        clear hb ho
        go_wp2_with fail
        have fin := HK.out [x0, x1, x2, x3, x4, .int .i64 D, x6, .int .i64 D] W (leanJ_mk { HJ.out with s8 := fun _ => rfl })
        simp only [putAll, Act.put, List.setIfInBounds_toArray, List.set_cons_succ, List.set_cons_zero] at fin
        exact fin
      | i + 9 => simp at hb
  · rintro vs W ⟨b0, b1, b2, b3, b4, b5, b6, b7, b8, x0, x1, x2, x3, x4, x5, x6, x7, hbs, rfl, J⟩
    simp only [List.length_cons, List.length_nil, List.replicate_succ, List.replicate_zero, List.cons.injEq, and_true] at hbs
    obtain ⟨rfl, rfl, rfl, rfl, rfl, rfl, rfl, rfl, rfl⟩ := hbs
    obtain ⟨p, rfl, hp1, hp2⟩ := J.s6 rfl
    obtain rfl := J.s8 rfl
    obtain rfl := J.s2 rfl
    have TT := Lib.hid (J.below)
    have q0 := hp2.cell 0
    have q1 := hp2.cell 1
    simp only [List.getElem?_cons_zero, List.getElem?_cons_succ, if_true] at q0 q1
    have rr := (r0.out.below (Below.andThen BV.out TT.out (Nat.le_refl _)) l0)
    have lW : w.heap.size < W.heap.size := rr.lt
    clear J hp1
    simp only [putAll, Act.put, List.setIfInBounds_toArray, List.set_cons_succ, List.set_cons_zero]
    have lp := hp2.lt
    clear hp2
    go_wp2_with fail
    refine (HFR.out W).mono ?_
    rintro e w5 ⟨rfl, hb5⟩
    obtain ⟨Z, hZ⟩ : ∃ Z, Z = w5.alloc (.cells #[.int .i64 fn, .int .i64 fd] 88) := ⟨_, rfl⟩
    have rz := (rr.below hb5 lW).below (B := w5.heap.size) (w' := Z) (by rw [hZ]; exact (Below.refl _ _).alloc (Nat.le_refl _) _) (Nat.lt_of_lt_of_le lW hb5.size)
    have c0 := rz.cell 0
    have c1 := rz.cell 1
    have g0 := frozen_of_row _ w.heap.size 0 _ _ rz
    have g1 := frozen_of_row _ w.heap.size 1 _ _ rz
    simp only [List.getElem?_cons_zero, List.getElem?_cons_succ] at c0 c1
    have T5 := Lib.hid (show Below w.heap.size w Z by rw [hZ]; exact Below.al (Below.andThen (Below.andThen HBW.out TT.out (Nat.le_refl _)) hb5 (Nat.le_refl _)) (Nat.le_refl _) _)
    rw [hZ] at c0 c1 g0 g1
    clear hb5 q0 q1
    go_wp2_with fail
    rw [← hZ] at c0 c1 ⊢
    obtain ⟨q0, q1⟩ := two_set (x := .int .i64 fn) (y := .int .i64 fd) c0 c1
    refine bodyPost_ret (v := .tuple #[.agg #[.int .i64 fn, .int .i64 fd], .int .i64 0]) (by simp [results, Try.results30, go_sem, q0, q1]) rfl ⟨rfl, ?_⟩
    exact (T5.out.setCell (p := ⟨w.heap.size, 0, none⟩) (Nat.le_refl _) _).setCell (p := ⟨w.heap.size, 1, none⟩) (Nat.le_refl _) _
end Go.Proofs.Ytlehddifcjklgaa
