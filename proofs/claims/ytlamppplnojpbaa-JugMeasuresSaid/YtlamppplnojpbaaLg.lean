import Derived.Test.YtlamppplnojpbaaLf
import Derived.Laws.AppendOwn
import Derived.ChangeKeysEq
import Derived.Maps.RangeWalk
import Derived.Maps.OwnIn
import Derived.Maps.AppendAt
import Derived.RangeFuncNested
import Derived.RangeFuncBound
import Derived.RangeFuncCalls
import Derived.RangeFuncLeaves
import Derived.Shelf.Abstract
import Derived.Shelf.RegionOpen
import Derived.WalkKit
import Derived.WalkMore
import Derived.OwnWalkIn
import Derived.TacticsInMore
import Derived.LoopNIn
import Derived.LoopIn
import Derived.WalkSpells
import Derived.WalkLawsBesides
import Derived.BigQuiet
import Derived.Deep.QuietTactic
import Derived.Lib.Hide
import Derived.Deep.RegionHeld3
import Derived.StillTailTactics
import Derived.Deep.LoopGhost
import Derived.Maps.OwnSet
import Derived.Lib.IndexAny
import Derived.Sort.QuietThIn
import Derived.Sort.QuietTacIn
import Derived.Sort.BigQuietIn
import Derived.Laws.OwnMore
namespace Go.Proofs.Ytlamppplnojpbaa
open Go.RowKit Go.Shelf
attribute [local go_sem] Oper.semAt_some
theorem rStep2 (first : Bool) (a b x y : Int) (ha : 1 ≤ a ∧ a ≤ 1000) (hb : 1 ≤ b ∧ b ≤ 1000) (hx : 0 ≤ x ∧ x ≤ a) (hy : 0 ≤ y ∧ y ≤ b) (v u : Value) (w : World) (hv : SlI w v [a, b]) (hu : SlI w u [x, y]) :
    Calls Try.prog 61 #[v, u, .agg #[.int .i64 (stpF first a b x y).1, .int .i64 (stpF first a b x y).2]] w fun e w' => ∃ s, e = .returned (.tuple #[s, .bool true]) ∧ w'.ownsRow w.heap.size 3 1 s 2 ([(nxtF first a b x y).1, (nxtF first a b x y).2].map encI) ∧ Below w.heap.size w w' := by
  have e1 : nxtF false a b x y = if x = a then (0, y) else if y = 0 then (x, b) else (x + min y (a - x), y - min y (a - x)) := rfl
  have e2 : nxtF true a b x y = if y = b then (x, 0) else if x = 0 then (a, y) else (x - min x (b - y), y + min x (b - y)) := rfl
  have s1 : stpF false a b x y = if x = a then (0, -1) else if y = 0 then (-1, 1) else (1, 0) := rfl
  have s2 : stpF true a b x y = if y = b then (1, -1) else if x = 0 then (-1, 0) else (0, 1) := rfl
  cases first
  · rw [e1, s1]
    by_cases h1 : x = a
    · rw [if_pos h1, if_pos h1]
      exact rStep_out [a, b] [x, y] v u 0 w hv hu 2 rfl rfl (by omega) (by omega)
    · rw [if_neg h1, if_neg h1]
      by_cases h2 : y = 0
      · rw [if_pos h2, if_pos h2]
        exact rStep_sea [a, b] [x, y] v u 1 w hv hu 2 rfl rfl (by omega) (by omega)
      · rw [if_neg h2, if_neg h2]
        have := rStep_pour [a, b] [x, y] v u 1 0 w hv hu 2 rfl rfl (by omega) (by omega) (by omega) (by omega) (by show 0 ≤ y ∧ y ≤ 1000; omega) (by show 0 ≤ x ∧ x ≤ 1000; omega) (by show 0 ≤ a ∧ a ≤ 1000; omega)
        exact this
  · rw [e2, s2]
    by_cases h1 : y = b
    · rw [if_pos h1, if_pos h1]
      exact rStep_out [a, b] [x, y] v u 1 w hv hu 2 rfl rfl (by omega) (by omega)
    · rw [if_neg h1, if_neg h1]
      by_cases h2 : x = 0
      · rw [if_pos h2, if_pos h2]
        exact rStep_sea [a, b] [x, y] v u 0 w hv hu 2 rfl rfl (by omega) (by omega)
      · rw [if_neg h2, if_neg h2]
        have := rStep_pour [a, b] [x, y] v u 0 1 w hv hu 2 rfl rfl (by omega) (by omega) (by omega) (by omega) (by show 0 ≤ x ∧ x ≤ 1000; omega) (by show 0 ≤ y ∧ y ≤ 1000; omega) (by show 0 ≤ b ∧ b ≤ 1000; omega)
        exact this
theorem Row.drewN {w : World} {g : Nat} {E : TypeId} {vs : List Value} (h : Row w g E vs) (n : Nat) : Row (w.drewN n) g E vs := h
def slLen : Value → Nat
  | .slice _ n _ => n
  | _ => 0
theorem own_len {W : World} {n₀ : Nat} {v : Value} {ps : List Pt} (h : OwnP W n₀ v ps) : slLen v = ps.length := by
  obtain ⟨a, c, rfl, _⟩ := h.open; rfl
theorem ints2_sli {w : World} {g c : Nat} {x y : Int} (hg : g < w.heap.size) (hc : 2 ≤ c) (h : IntsAt w g 0 [x, y]) : SlI w (.slice (some ⟨g, 0, none⟩) 2 c) [x, y] := ⟨_, c, rfl, hc, .inr ⟨g, 0, rfl, hg, h⟩⟩
theorem own_two (W : World) (x y : Int) (n₀ : Nat) (h : n₀ ≤ W.heap.size) : (W.alloc (.cells #[.int .i64 x, .int .i64 y] 3)).ownsRow n₀ 3 1 (.slice (some ⟨W.heap.size, 0, none⟩) 2 2) 2 ([x, y].map encI) :=
  ⟨rfl, .inr ⟨W.heap.size, 2, #[.int .i64 x, .int .i64 y], rfl, h, World.alloc_heap_new W _, Nat.le_refl _, by decide, rfl, rfl⟩⟩
theorem own_differ {W : World} {n₀ n₁ e e' s s' k l : Nat} {v u : Value} {xs ys : List Value} (h : W.ownsRow n₀ e s v k xs) (h' : W.ownsRow n₁ e' s' u l ys) (he : e ≠ e') : v.ownBlock = none ∨ v.ownBlock ≠ u.ownBlock := by
  rcases h.2 with ⟨rfl, _⟩ | ⟨g, cap, cur, rfl, _, hg, _⟩
  · exact .inl rfl
  · right
    rcases h'.2 with ⟨rfl, _⟩ | ⟨g', cap', cur', rfl, _, hg', _⟩
    · intro h; cases h
    · intro h
      have hgg : g = g' := by simpa [Value.ownBlock] using h
      subst hgg
      rw [hg] at hg'
      cases hg'
      exact he rfl
theorem twoR_start (w : World) (a b : Int) : ∃ W, W = (w.alloc (.cells #[.int .i64 a, .int .i64 b] 3)).alloc (.cells #[.int .i64 0, .int .i64 0] 3) ∧ Below w.heap.size w W ∧ W.ownsRow w.heap.size 3 1 (.slice (some ⟨w.heap.size, 0, none⟩) 2 2) 2 ([a, b].map encI) ∧ W.ownsRow w.heap.size 3 1 (.slice (some ⟨w.heap.size + 1, 0, none⟩) 2 2) 2 (([0, 0] : List Int).map encI) := by
  have h1 := own_two w a b w.heap.size (Nat.le_refl _)
  have b1 := Below.al (Below.refl w.heap.size w) (Nat.le_refl _) (.cells #[.int .i64 a, .int .i64 b] 3)
  have z1 := size_al w (.cells #[.int .i64 a, .int .i64 b] 3)
  generalize w.alloc (.cells #[.int .i64 a, .int .i64 b] 3) = w1 at *
  have h2 := own_two w1 0 0 w.heap.size b1.size
  have b2 := Below.al (Below.refl w1.heap.size w1) (Nat.le_refl _) (.cells #[.int .i64 0, .int .i64 0] 3)
  exact ⟨_, rfl, Below.andThen b1 b2 (Nat.le_refl _), own_grow h1 b2, by rw [z1] at h2; exact h2⟩
structure TwoR (w : World) (first : Bool) (a b : Int) (i : Nat) (fv ov : Value) (wr : World) : Prop where
  bl : Below w.heap.size w wr
  sz : wr.ownsRow w.heap.size 3 1 (.slice (some ⟨w.heap.size, 0, none⟩) 2 2) 2 ([a, b].map encI)
  f : wr.ownsRow w.heap.size 3 1 fv 2 ([(orb first a b i).1, (orb first a b i).2].map encI)
  out : OwnP wr w.heap.size ov (wayL first a b i)
set_option maxRecDepth 100000 in
set_option maxHeartbeats 4000000 in
theorem refTwoWay_any (first : Bool) (a b amt : Int) (ha : 1 ≤ a ∧ a ≤ 1000) (hb : 1 ≤ b ∧ b ≤ 1000) (j : Nat) (hj : j < 4004) (hh : hasS amt (orb first a b j)) (hl : ∀ i, i < j → ¬ hasS amt (orb first a b i)) (w : World) :
    Calls Try.prog 44 #[.int .i64 a, .int .i64 b, .int .i64 amt, .bool first] w fun e w' => ∃ s, e = .returned s ∧ OwnP w' w.heap.size s (wayL first a b j) ∧ Below w.heap.size w w' := by
  obtain ⟨i0, hi, hz0, hz1, hz2⟩ := info_parts info48
  obtain ⟨W, hW, hw1, hw2, hw3⟩ := twoR_start w a b
  have HSTART : Hid (TwoR w first a b 0 (.slice (some ⟨w.heap.size + 1, 0, none⟩) 2 2) (.slice none 0 0) W) := Lib.hid ⟨hw1, hw2, hw3, World.ownsRow_nil _ _ _ _⟩
  have HW := Lib.hid hW
  have HH := Lib.hid hh
  have HL := Lib.hid hl
  have HSTEP := Lib.hid (rStep2 first a b)
  have HEDGE := Lib.hid (orb_edge ha.1 hb.1 first)
  clear hW hw1 hw2 hw3 hh hl
  cases first with
  | true =>
    go_enter Try.func44, Try.ntmps44
    go_wp2_with fail
    rw [← HW.out]
    go_loopw [12, 13] (fun fv ov wr => ∃ i : Nat, i ≤ j ∧ slLen ov = i ∧ Hid (TwoR w true a b i fv ov wr)) (fun _ ov _ => j - slLen ov)
    case atStart => exact ⟨0, by omega, rfl, HSTART⟩
    case round =>
      obtain ⟨i, hij, hsl, HR⟩ := hrel
      have HSL := Lib.hid hsl
      clear hsl
      obtain ⟨g, c, rfl, hc⟩ := own_slice HR.out.f (by omega)
      have HFI := Lib.hid HR.out.f
      have HHAS := Lib.hid (Has_any _ amt _ wr (sli_own HR.out.f) (by simp))
      have hed := HEDGE.out i
      unfold Edge at hed
      have hyes := HH.out
      have hno := fun h : i < j => HL.out i h
      unfold hasS at hyes hno
      have HWS := Lib.hid (wayL_succ true a b i)
      have HOS := Lib.hid (show orb true a b (i + 1) = nxtF true a b (orb true a b i).1 (orb true a b i).2 from rfl)
      by_cases hlt : i < j
      · have hhas : decide (amt ∈ [(orb true a b i).1, (orb true a b i).2]) = false := decide_eq_false (by
          have := hno hlt
          simp only [List.mem_cons, List.not_mem_nil, or_false]
          intro h; exact this (h.imp Eq.symm Eq.symm))
        rw [hhas] at HHAS
        clear hhas hno hyes
        generalize (orb true a b i).1 = x at *
        generalize (orb true a b i).2 = y at *
        go_wp2_with fail
        refine HHAS.out.mono ?_
        rintro e w1 ⟨rfl, hb1⟩
        have HB1 := Lib.hid hb1
        have HI1 := Lib.hid (own_grow HFI.out hb1)
        have HZ1 := Lib.hid (own_grow HR.out.sz hb1)
        have HO1 := Lib.hid (own_grow HR.out.out hb1)
        clear hb1 HHAS
        have hcl : ∀ (W : World) (hb : Below w1.heap.size w1 W), (W.cell? ⟨g, 0, none⟩ = some (.int .i64 x) ∧ W.cell? ⟨g, 1, none⟩ = some (.int .i64 y)) ∧ W.cell? ⟨w.heap.size, 0, none⟩ = some (.int .i64 a) ∧ W.cell? ⟨w.heap.size, 1, none⟩ = some (.int .i64 b) := fun W hb => by
          have h1 := own_grow HI1.out hb
          have h2 := own_grow HZ1.out hb
          exact ⟨⟨(own_cell h1 0 (by omega)).1, (own_cell h1 1 (by omega)).1⟩, (own_cell h2 0 (by omega)).1, (own_cell h2 1 (by omega)).1⟩
        obtain ⟨⟨k1, k2⟩, k3, k4⟩ := hcl _ ((Below.al (Below.refl _ _) (Nat.le_refl _) (.cells #[.int .i64 0, .int .i64 1] 48)))
        clear hcl
        by_cases hA : y = b
        · have d1 : (y == b) = true := by simp [hA]
          have d1' : decide (y = b) = true := decide_eq_true hA
          have hst : stpF true a b x y = (1, (-1)) := by
            show (if y = b then ((1, -1) : Int × Int) else if x = 0 then (-1, 0) else (0, 1)) = _
            rw [if_pos hA]
          have HST := Lib.hid hst
          have hb' := hb
          clear hst hA
          go_wp2_with fail
          go_quiet (fail)
          go_wp2_with fail
          have C := Lib.hid (fun (W : World) (hb : Below w1.heap.size w1 W) => HSTEP.out x y ha hb' hed.1 hed.2.1 _ _ W (sli_own (own_grow HZ1.out hb)) (sli_own (own_grow HI1.out hb)))
          have r1 := Row.new w1 48 [.int .i64 0, .int .i64 1]
          have r2 : Row ((((w1.alloc (.cells #[.int .i64 0, .int .i64 1] 48)).drewN nq).setCell ⟨w1.heap.size, 0, none⟩ (.int .i64 1)).setCell ⟨w1.heap.size, 1, none⟩ (.int .i64 (-1))) w1.heap.size 48 [.int .i64 1, .int .i64 (-1)] := by simpa using (Row.drewN r1 nq).set 0 (.int .i64 1) |>.set 1 (.int .i64 (-1))
          have bw : Below w1.heap.size w1 ((((w1.alloc (.cells #[.int .i64 0, .int .i64 1] 48)).drewN nq).setCell ⟨w1.heap.size, 0, none⟩ (.int .i64 1)).setCell ⟨w1.heap.size, 1, none⟩ (.int .i64 (-1))) := (((below_drewN (Below.al (Below.refl w1.heap.size w1) (Nat.le_refl _) _) nq).setCell (p := ⟨w1.heap.size, 0, none⟩) (Nat.le_refl _) _).setCell (p := ⟨w1.heap.size, 1, none⟩) (Nat.le_refl _) _)
          have C2 := C.out _ bw
          simp only [HST.out] at C2
          have R2 := Lib.hid r2
          have BW := Lib.hid bw
          clear r1 r2 bw C
          refine C2.mono ?_
          rintro e w2 ⟨s, rfl, hs, hb2⟩
          have r3 := R2.out.below hb2 R2.out.lt
          have q0 := r3.cell 0
          have q1 := r3.cell 1
          simp only [List.getElem?_cons_zero, List.getElem?_cons_succ] at q0 q1
          have HB2 := Lib.hid (Below.andThen (Below.andThen (Below.andThen HR.out.bl HB1.out (Nat.le_refl _)) BW.out (Nat.le_refl _)) hb2 (Nat.le_refl _))
          have HO2 := Lib.hid (own_grow (own_grow HO1.out BW.out) hb2)
          have HZ2 := Lib.hid (own_grow (own_grow HZ1.out BW.out) hb2)
          have HF2 := Lib.hid (owns_mono hs (Nat.le_trans HR.out.bl.size (Nat.le_trans HB1.out.size BW.out.size)))
          have HLW := Lib.hid (wayL_len true a b i)
          clear hs hb2 r3 C2
          go_wp2_with (at_builtin; refine wpList_append_own_at _ rfl _ _ 27 rfl w.heap.size 48 i0 (.agg #[.int .i64 0, .int .i64 0]) 2 16 Try.underlying27 hi hz0 hz1 hz2 rfl (by decide) u13 (wayL true a b i).length (flat (wayL true a b i)) rfl (HO2.out.alloc _) ⟨w2.heap.size, 0, none⟩ 1 1 [.int .i64 1, .int .i64 (-1)] rfl rfl (cells_two_new _ _ _ _) (by simp [Value.oneCell']) (by unfold maxLen; have := HLW.out; omega) (by have := HLW.out; omega) (Nat.le_trans HB2.out.size (by simp)) ?_; intro v' w3 hown' hgrow hnil hat'; have HR3 := Lib.hid (show OwnP w3 w.heap.size v' (wayL true a b (i + 1)) from by rw [HWS.out, HST.out]; unfold OwnP; rw [flat_snoc, List.length_append, List.length_singleton]; exact hown'); have HB3 := Lib.hid (own_belowP HO2.out HB2.out hgrow); have HZ3 := Lib.hid ((HZ2.out.alloc _).kept hgrow (own_differ HZ2.out HO2.out (by decide))); have HF3 := Lib.hid ((HF2.out.alloc _).kept hgrow (own_differ HF2.out HO2.out (by decide))); clear hown' hgrow hnil hat')
          have hl1 : slLen v' = i + 1 := by rw [own_len HR3.out, wayL_len]
          exact ⟨⟨i + 1, by omega, hl1, Lib.hid ⟨HB3.out, HZ3.out, by rw [HOS.out]; exact HF3.out, HR3.out⟩⟩, by rw [hl1, HSL.out]; omega⟩
        · by_cases hB : x = 0
          · have d1 : (y == b) = false := by simp [hA]
            have d1' : decide (y = b) = false := decide_eq_false hA
            have d2 : (x == 0) = true := by simp [hB]
            have d2' : decide (x = 0) = true := decide_eq_true hB
            have hst : stpF true a b x y = ((-1), 0) := by
              show (if y = b then ((1, -1) : Int × Int) else if x = 0 then (-1, 0) else (0, 1)) = _
              rw [if_neg hA, if_pos hB]
            have HST := Lib.hid hst
            have hb' := hb
            clear hst hA hB
            go_wp2_with fail
            go_quiet (fail)
            go_wp2_with fail
            have C := Lib.hid (fun (W : World) (hb : Below w1.heap.size w1 W) => HSTEP.out x y ha hb' hed.1 hed.2.1 _ _ W (sli_own (own_grow HZ1.out hb)) (sli_own (own_grow HI1.out hb)))
            have r1 := Row.new w1 48 [.int .i64 0, .int .i64 1]
            have r2 : Row ((((w1.alloc (.cells #[.int .i64 0, .int .i64 1] 48)).drewN nq).setCell ⟨w1.heap.size, 0, none⟩ (.int .i64 (-1))).setCell ⟨w1.heap.size, 1, none⟩ (.int .i64 0)) w1.heap.size 48 [.int .i64 (-1), .int .i64 0] := by simpa using (Row.drewN r1 nq).set 0 (.int .i64 (-1)) |>.set 1 (.int .i64 0)
            have bw : Below w1.heap.size w1 ((((w1.alloc (.cells #[.int .i64 0, .int .i64 1] 48)).drewN nq).setCell ⟨w1.heap.size, 0, none⟩ (.int .i64 (-1))).setCell ⟨w1.heap.size, 1, none⟩ (.int .i64 0)) := (((below_drewN (Below.al (Below.refl w1.heap.size w1) (Nat.le_refl _) _) nq).setCell (p := ⟨w1.heap.size, 0, none⟩) (Nat.le_refl _) _).setCell (p := ⟨w1.heap.size, 1, none⟩) (Nat.le_refl _) _)
            have C2 := C.out _ bw
            simp only [HST.out] at C2
            have R2 := Lib.hid r2
            have BW := Lib.hid bw
            clear r1 r2 bw C
            refine C2.mono ?_
            rintro e w2 ⟨s, rfl, hs, hb2⟩
            have r3 := R2.out.below hb2 R2.out.lt
            have q0 := r3.cell 0
            have q1 := r3.cell 1
            simp only [List.getElem?_cons_zero, List.getElem?_cons_succ] at q0 q1
            have HB2 := Lib.hid (Below.andThen (Below.andThen (Below.andThen HR.out.bl HB1.out (Nat.le_refl _)) BW.out (Nat.le_refl _)) hb2 (Nat.le_refl _))
            have HO2 := Lib.hid (own_grow (own_grow HO1.out BW.out) hb2)
            have HZ2 := Lib.hid (own_grow (own_grow HZ1.out BW.out) hb2)
            have HF2 := Lib.hid (owns_mono hs (Nat.le_trans HR.out.bl.size (Nat.le_trans HB1.out.size BW.out.size)))
            have HLW := Lib.hid (wayL_len true a b i)
            clear hs hb2 r3 C2
            go_wp2_with (at_builtin; refine wpList_append_own_at _ rfl _ _ 27 rfl w.heap.size 48 i0 (.agg #[.int .i64 0, .int .i64 0]) 2 16 Try.underlying27 hi hz0 hz1 hz2 rfl (by decide) u13 (wayL true a b i).length (flat (wayL true a b i)) rfl (HO2.out.alloc _) ⟨w2.heap.size, 0, none⟩ 1 1 [.int .i64 (-1), .int .i64 0] rfl rfl (cells_two_new _ _ _ _) (by simp [Value.oneCell']) (by unfold maxLen; have := HLW.out; omega) (by have := HLW.out; omega) (Nat.le_trans HB2.out.size (by simp)) ?_; intro v' w3 hown' hgrow hnil hat'; have HR3 := Lib.hid (show OwnP w3 w.heap.size v' (wayL true a b (i + 1)) from by rw [HWS.out, HST.out]; unfold OwnP; rw [flat_snoc, List.length_append, List.length_singleton]; exact hown'); have HB3 := Lib.hid (own_belowP HO2.out HB2.out hgrow); have HZ3 := Lib.hid ((HZ2.out.alloc _).kept hgrow (own_differ HZ2.out HO2.out (by decide))); have HF3 := Lib.hid ((HF2.out.alloc _).kept hgrow (own_differ HF2.out HO2.out (by decide))); clear hown' hgrow hnil hat')
            have hl1 : slLen v' = i + 1 := by rw [own_len HR3.out, wayL_len]
            exact ⟨⟨i + 1, by omega, hl1, Lib.hid ⟨HB3.out, HZ3.out, by rw [HOS.out]; exact HF3.out, HR3.out⟩⟩, by rw [hl1, HSL.out]; omega⟩
          · have d1 : (y == b) = false := by simp [hA]
            have d1' : decide (y = b) = false := decide_eq_false hA
            have d2 : (x == 0) = false := by simp [hB]
            have d2' : decide (x = 0) = false := decide_eq_false hB
            have hst : stpF true a b x y = (0, 1) := by
              show (if y = b then ((1, -1) : Int × Int) else if x = 0 then (-1, 0) else (0, 1)) = _
              rw [if_neg hA, if_neg hB]
            have HST := Lib.hid hst
            have hb' := hb
            clear hst hA hB
            go_wp2_with fail
            go_quiet (fail)
            go_wp2_with fail
            have C := Lib.hid (fun (W : World) (hb : Below w1.heap.size w1 W) => HSTEP.out x y ha hb' hed.1 hed.2.1 _ _ W (sli_own (own_grow HZ1.out hb)) (sli_own (own_grow HI1.out hb)))
            have r1 := Row.new w1 48 [.int .i64 0, .int .i64 1]
            have r2 : Row ((w1.alloc (.cells #[.int .i64 0, .int .i64 1] 48)).drewN nq) w1.heap.size 48 [.int .i64 0, .int .i64 1] := Row.drewN r1 nq
            have bw : Below w1.heap.size w1 ((w1.alloc (.cells #[.int .i64 0, .int .i64 1] 48)).drewN nq) := below_drewN (Below.al (Below.refl w1.heap.size w1) (Nat.le_refl _) _) nq
            have C2 := C.out _ bw
            simp only [HST.out] at C2
            have R2 := Lib.hid r2
            have BW := Lib.hid bw
            clear r1 r2 bw C
            refine C2.mono ?_
            rintro e w2 ⟨s, rfl, hs, hb2⟩
            have r3 := R2.out.below hb2 R2.out.lt
            have q0 := r3.cell 0
            have q1 := r3.cell 1
            simp only [List.getElem?_cons_zero, List.getElem?_cons_succ] at q0 q1
            have HB2 := Lib.hid (Below.andThen (Below.andThen (Below.andThen HR.out.bl HB1.out (Nat.le_refl _)) BW.out (Nat.le_refl _)) hb2 (Nat.le_refl _))
            have HO2 := Lib.hid (own_grow (own_grow HO1.out BW.out) hb2)
            have HZ2 := Lib.hid (own_grow (own_grow HZ1.out BW.out) hb2)
            have HF2 := Lib.hid (owns_mono hs (Nat.le_trans HR.out.bl.size (Nat.le_trans HB1.out.size BW.out.size)))
            have HLW := Lib.hid (wayL_len true a b i)
            clear hs hb2 r3 C2
            go_wp2_with (at_builtin; refine wpList_append_own_at _ rfl _ _ 27 rfl w.heap.size 48 i0 (.agg #[.int .i64 0, .int .i64 0]) 2 16 Try.underlying27 hi hz0 hz1 hz2 rfl (by decide) u13 (wayL true a b i).length (flat (wayL true a b i)) rfl (HO2.out.alloc _) ⟨w2.heap.size, 0, none⟩ 1 1 [.int .i64 0, .int .i64 1] rfl rfl (cells_two_new _ _ _ _) (by simp [Value.oneCell']) (by unfold maxLen; have := HLW.out; omega) (by have := HLW.out; omega) (Nat.le_trans HB2.out.size (by simp)) ?_; intro v' w3 hown' hgrow hnil hat'; have HR3 := Lib.hid (show OwnP w3 w.heap.size v' (wayL true a b (i + 1)) from by rw [HWS.out, HST.out]; unfold OwnP; rw [flat_snoc, List.length_append, List.length_singleton]; exact hown'); have HB3 := Lib.hid (own_belowP HO2.out HB2.out hgrow); have HZ3 := Lib.hid ((HZ2.out.alloc _).kept hgrow (own_differ HZ2.out HO2.out (by decide))); have HF3 := Lib.hid ((HF2.out.alloc _).kept hgrow (own_differ HF2.out HO2.out (by decide))); clear hown' hgrow hnil hat')
            have hl1 : slLen v' = i + 1 := by rw [own_len HR3.out, wayL_len]
            exact ⟨⟨i + 1, by omega, hl1, Lib.hid ⟨HB3.out, HZ3.out, by rw [HOS.out]; exact HF3.out, HR3.out⟩⟩, by rw [hl1, HSL.out]; omega⟩
      · obtain rfl : i = j := by omega
        have hhas : decide (amt ∈ [(orb true a b i).1, (orb true a b i).2]) = true := decide_eq_true (by
          simp only [List.mem_cons, List.not_mem_nil, or_false]
          exact hyes.imp Eq.symm Eq.symm)
        rw [hhas] at HHAS
        clear hhas hno hyes
        go_wp2_with fail
        refine HHAS.out.mono ?_
        rintro e w1 ⟨rfl, hb1⟩
        have HB1 := Lib.hid (Below.andThen HR.out.bl hb1 (Nat.le_refl _))
        have HO1 := Lib.hid (own_grow HR.out.out hb1)
        clear hb1 HHAS
        go_wp2_with fail
        go_ret
        exact ⟨_, rfl, HO1.out, HB1.out⟩
  | false =>
    go_enter Try.func44, Try.ntmps44
    go_wp2_with fail
    rw [← HW.out]
    go_loopw [12, 13] (fun fv ov wr => ∃ i : Nat, i ≤ j ∧ slLen ov = i ∧ Hid (TwoR w false a b i fv ov wr)) (fun _ ov _ => j - slLen ov)
    case atStart => exact ⟨0, by omega, rfl, HSTART⟩
    case round =>
      obtain ⟨i, hij, hsl, HR⟩ := hrel
      have HSL := Lib.hid hsl
      clear hsl
      obtain ⟨g, c, rfl, hc⟩ := own_slice HR.out.f (by omega)
      have HFI := Lib.hid HR.out.f
      have HHAS := Lib.hid (Has_any _ amt _ wr (sli_own HR.out.f) (by simp))
      have hed := HEDGE.out i
      unfold Edge at hed
      have hyes := HH.out
      have hno := fun h : i < j => HL.out i h
      unfold hasS at hyes hno
      have HWS := Lib.hid (wayL_succ false a b i)
      have HOS := Lib.hid (show orb false a b (i + 1) = nxtF false a b (orb false a b i).1 (orb false a b i).2 from rfl)
      by_cases hlt : i < j
      · have hhas : decide (amt ∈ [(orb false a b i).1, (orb false a b i).2]) = false := decide_eq_false (by
          have := hno hlt
          simp only [List.mem_cons, List.not_mem_nil, or_false]
          intro h; exact this (h.imp Eq.symm Eq.symm))
        rw [hhas] at HHAS
        clear hhas hno hyes
        generalize (orb false a b i).1 = x at *
        generalize (orb false a b i).2 = y at *
        go_wp2_with fail
        refine HHAS.out.mono ?_
        rintro e w1 ⟨rfl, hb1⟩
        have HB1 := Lib.hid hb1
        have HI1 := Lib.hid (own_grow HFI.out hb1)
        have HZ1 := Lib.hid (own_grow HR.out.sz hb1)
        have HO1 := Lib.hid (own_grow HR.out.out hb1)
        clear hb1 HHAS
        have hcl : ∀ (W : World) (hb : Below w1.heap.size w1 W), (W.cell? ⟨g, 0, none⟩ = some (.int .i64 x) ∧ W.cell? ⟨g, 1, none⟩ = some (.int .i64 y)) ∧ W.cell? ⟨w.heap.size, 0, none⟩ = some (.int .i64 a) ∧ W.cell? ⟨w.heap.size, 1, none⟩ = some (.int .i64 b) := fun W hb => by
          have h1 := own_grow HI1.out hb
          have h2 := own_grow HZ1.out hb
          exact ⟨⟨(own_cell h1 0 (by omega)).1, (own_cell h1 1 (by omega)).1⟩, (own_cell h2 0 (by omega)).1, (own_cell h2 1 (by omega)).1⟩
        obtain ⟨⟨k1, k2⟩, k3, k4⟩ := hcl _ ((Below.al (Below.refl _ _) (Nat.le_refl _) (.cells #[.int .i64 1, .int .i64 0] 48)))
        clear hcl
        by_cases hA : x = a
        · have d1 : (x == a) = true := by simp [hA]
          have d1' : decide (x = a) = true := decide_eq_true hA
          have hst : stpF false a b x y = (0, (-1)) := by
            show (if x = a then ((0, -1) : Int × Int) else if y = 0 then (-1, 1) else (1, 0)) = _
            rw [if_pos hA]
          have HST := Lib.hid hst
          have hb' := hb
          clear hst hA
          go_wp2_with fail
          go_quiet (fail)
          go_wp2_with fail
          have C := Lib.hid (fun (W : World) (hb : Below w1.heap.size w1 W) => HSTEP.out x y ha hb' hed.1 hed.2.1 _ _ W (sli_own (own_grow HZ1.out hb)) (sli_own (own_grow HI1.out hb)))
          have r1 := Row.new w1 48 [.int .i64 1, .int .i64 0]
          have r2 : Row ((((w1.alloc (.cells #[.int .i64 1, .int .i64 0] 48)).drewN nq).setCell ⟨w1.heap.size, 0, none⟩ (.int .i64 0)).setCell ⟨w1.heap.size, 1, none⟩ (.int .i64 (-1))) w1.heap.size 48 [.int .i64 0, .int .i64 (-1)] := by simpa using (Row.drewN r1 nq).set 0 (.int .i64 0) |>.set 1 (.int .i64 (-1))
          have bw : Below w1.heap.size w1 ((((w1.alloc (.cells #[.int .i64 1, .int .i64 0] 48)).drewN nq).setCell ⟨w1.heap.size, 0, none⟩ (.int .i64 0)).setCell ⟨w1.heap.size, 1, none⟩ (.int .i64 (-1))) := (((below_drewN (Below.al (Below.refl w1.heap.size w1) (Nat.le_refl _) _) nq).setCell (p := ⟨w1.heap.size, 0, none⟩) (Nat.le_refl _) _).setCell (p := ⟨w1.heap.size, 1, none⟩) (Nat.le_refl _) _)
          have C2 := C.out _ bw
          simp only [HST.out] at C2
          have R2 := Lib.hid r2
          have BW := Lib.hid bw
          clear r1 r2 bw C
          refine C2.mono ?_
          rintro e w2 ⟨s, rfl, hs, hb2⟩
          have r3 := R2.out.below hb2 R2.out.lt
          have q0 := r3.cell 0
          have q1 := r3.cell 1
          simp only [List.getElem?_cons_zero, List.getElem?_cons_succ] at q0 q1
          have HB2 := Lib.hid (Below.andThen (Below.andThen (Below.andThen HR.out.bl HB1.out (Nat.le_refl _)) BW.out (Nat.le_refl _)) hb2 (Nat.le_refl _))
          have HO2 := Lib.hid (own_grow (own_grow HO1.out BW.out) hb2)
          have HZ2 := Lib.hid (own_grow (own_grow HZ1.out BW.out) hb2)
          have HF2 := Lib.hid (owns_mono hs (Nat.le_trans HR.out.bl.size (Nat.le_trans HB1.out.size BW.out.size)))
          have HLW := Lib.hid (wayL_len false a b i)
          clear hs hb2 r3 C2
          go_wp2_with (at_builtin; refine wpList_append_own_at _ rfl _ _ 27 rfl w.heap.size 48 i0 (.agg #[.int .i64 0, .int .i64 0]) 2 16 Try.underlying27 hi hz0 hz1 hz2 rfl (by decide) u13 (wayL false a b i).length (flat (wayL false a b i)) rfl (HO2.out.alloc _) ⟨w2.heap.size, 0, none⟩ 1 1 [.int .i64 0, .int .i64 (-1)] rfl rfl (cells_two_new _ _ _ _) (by simp [Value.oneCell']) (by unfold maxLen; have := HLW.out; omega) (by have := HLW.out; omega) (Nat.le_trans HB2.out.size (by simp)) ?_; intro v' w3 hown' hgrow hnil hat'; have HR3 := Lib.hid (show OwnP w3 w.heap.size v' (wayL false a b (i + 1)) from by rw [HWS.out, HST.out]; unfold OwnP; rw [flat_snoc, List.length_append, List.length_singleton]; exact hown'); have HB3 := Lib.hid (own_belowP HO2.out HB2.out hgrow); have HZ3 := Lib.hid ((HZ2.out.alloc _).kept hgrow (own_differ HZ2.out HO2.out (by decide))); have HF3 := Lib.hid ((HF2.out.alloc _).kept hgrow (own_differ HF2.out HO2.out (by decide))); clear hown' hgrow hnil hat')
          have hl1 : slLen v' = i + 1 := by rw [own_len HR3.out, wayL_len]
          exact ⟨⟨i + 1, by omega, hl1, Lib.hid ⟨HB3.out, HZ3.out, by rw [HOS.out]; exact HF3.out, HR3.out⟩⟩, by rw [hl1, HSL.out]; omega⟩
        · by_cases hB : y = 0
          · have d1 : (x == a) = false := by simp [hA]
            have d1' : decide (x = a) = false := decide_eq_false hA
            have d2 : (y == 0) = true := by simp [hB]
            have d2' : decide (y = 0) = true := decide_eq_true hB
            have hst : stpF false a b x y = ((-1), 1) := by
              show (if x = a then ((0, -1) : Int × Int) else if y = 0 then (-1, 1) else (1, 0)) = _
              rw [if_neg hA, if_pos hB]
            have HST := Lib.hid hst
            have hb' := hb
            clear hst hA hB
            go_wp2_with fail
            go_quiet (fail)
            go_wp2_with fail
            have C := Lib.hid (fun (W : World) (hb : Below w1.heap.size w1 W) => HSTEP.out x y ha hb' hed.1 hed.2.1 _ _ W (sli_own (own_grow HZ1.out hb)) (sli_own (own_grow HI1.out hb)))
            have r1 := Row.new w1 48 [.int .i64 1, .int .i64 0]
            have r2 : Row ((((w1.alloc (.cells #[.int .i64 1, .int .i64 0] 48)).drewN nq).setCell ⟨w1.heap.size, 0, none⟩ (.int .i64 (-1))).setCell ⟨w1.heap.size, 1, none⟩ (.int .i64 1)) w1.heap.size 48 [.int .i64 (-1), .int .i64 1] := by simpa using (Row.drewN r1 nq).set 0 (.int .i64 (-1)) |>.set 1 (.int .i64 1)
            have bw : Below w1.heap.size w1 ((((w1.alloc (.cells #[.int .i64 1, .int .i64 0] 48)).drewN nq).setCell ⟨w1.heap.size, 0, none⟩ (.int .i64 (-1))).setCell ⟨w1.heap.size, 1, none⟩ (.int .i64 1)) := (((below_drewN (Below.al (Below.refl w1.heap.size w1) (Nat.le_refl _) _) nq).setCell (p := ⟨w1.heap.size, 0, none⟩) (Nat.le_refl _) _).setCell (p := ⟨w1.heap.size, 1, none⟩) (Nat.le_refl _) _)
            have C2 := C.out _ bw
            simp only [HST.out] at C2
            have R2 := Lib.hid r2
            have BW := Lib.hid bw
            clear r1 r2 bw C
            refine C2.mono ?_
            rintro e w2 ⟨s, rfl, hs, hb2⟩
            have r3 := R2.out.below hb2 R2.out.lt
            have q0 := r3.cell 0
            have q1 := r3.cell 1
            simp only [List.getElem?_cons_zero, List.getElem?_cons_succ] at q0 q1
            have HB2 := Lib.hid (Below.andThen (Below.andThen (Below.andThen HR.out.bl HB1.out (Nat.le_refl _)) BW.out (Nat.le_refl _)) hb2 (Nat.le_refl _))
            have HO2 := Lib.hid (own_grow (own_grow HO1.out BW.out) hb2)
            have HZ2 := Lib.hid (own_grow (own_grow HZ1.out BW.out) hb2)
            have HF2 := Lib.hid (owns_mono hs (Nat.le_trans HR.out.bl.size (Nat.le_trans HB1.out.size BW.out.size)))
            have HLW := Lib.hid (wayL_len false a b i)
            clear hs hb2 r3 C2
            go_wp2_with (at_builtin; refine wpList_append_own_at _ rfl _ _ 27 rfl w.heap.size 48 i0 (.agg #[.int .i64 0, .int .i64 0]) 2 16 Try.underlying27 hi hz0 hz1 hz2 rfl (by decide) u13 (wayL false a b i).length (flat (wayL false a b i)) rfl (HO2.out.alloc _) ⟨w2.heap.size, 0, none⟩ 1 1 [.int .i64 (-1), .int .i64 1] rfl rfl (cells_two_new _ _ _ _) (by simp [Value.oneCell']) (by unfold maxLen; have := HLW.out; omega) (by have := HLW.out; omega) (Nat.le_trans HB2.out.size (by simp)) ?_; intro v' w3 hown' hgrow hnil hat'; have HR3 := Lib.hid (show OwnP w3 w.heap.size v' (wayL false a b (i + 1)) from by rw [HWS.out, HST.out]; unfold OwnP; rw [flat_snoc, List.length_append, List.length_singleton]; exact hown'); have HB3 := Lib.hid (own_belowP HO2.out HB2.out hgrow); have HZ3 := Lib.hid ((HZ2.out.alloc _).kept hgrow (own_differ HZ2.out HO2.out (by decide))); have HF3 := Lib.hid ((HF2.out.alloc _).kept hgrow (own_differ HF2.out HO2.out (by decide))); clear hown' hgrow hnil hat')
            have hl1 : slLen v' = i + 1 := by rw [own_len HR3.out, wayL_len]
            exact ⟨⟨i + 1, by omega, hl1, Lib.hid ⟨HB3.out, HZ3.out, by rw [HOS.out]; exact HF3.out, HR3.out⟩⟩, by rw [hl1, HSL.out]; omega⟩
          · have d1 : (x == a) = false := by simp [hA]
            have d1' : decide (x = a) = false := decide_eq_false hA
            have d2 : (y == 0) = false := by simp [hB]
            have d2' : decide (y = 0) = false := decide_eq_false hB
            have hst : stpF false a b x y = (1, 0) := by
              show (if x = a then ((0, -1) : Int × Int) else if y = 0 then (-1, 1) else (1, 0)) = _
              rw [if_neg hA, if_neg hB]
            have HST := Lib.hid hst
            have hb' := hb
            clear hst hA hB
            go_wp2_with fail
            go_quiet (fail)
            go_wp2_with fail
            have C := Lib.hid (fun (W : World) (hb : Below w1.heap.size w1 W) => HSTEP.out x y ha hb' hed.1 hed.2.1 _ _ W (sli_own (own_grow HZ1.out hb)) (sli_own (own_grow HI1.out hb)))
            have r1 := Row.new w1 48 [.int .i64 1, .int .i64 0]
            have r2 : Row ((w1.alloc (.cells #[.int .i64 1, .int .i64 0] 48)).drewN nq) w1.heap.size 48 [.int .i64 1, .int .i64 0] := Row.drewN r1 nq
            have bw : Below w1.heap.size w1 ((w1.alloc (.cells #[.int .i64 1, .int .i64 0] 48)).drewN nq) := below_drewN (Below.al (Below.refl w1.heap.size w1) (Nat.le_refl _) _) nq
            have C2 := C.out _ bw
            simp only [HST.out] at C2
            have R2 := Lib.hid r2
            have BW := Lib.hid bw
            clear r1 r2 bw C
            refine C2.mono ?_
            rintro e w2 ⟨s, rfl, hs, hb2⟩
            have r3 := R2.out.below hb2 R2.out.lt
            have q0 := r3.cell 0
            have q1 := r3.cell 1
            simp only [List.getElem?_cons_zero, List.getElem?_cons_succ] at q0 q1
            have HB2 := Lib.hid (Below.andThen (Below.andThen (Below.andThen HR.out.bl HB1.out (Nat.le_refl _)) BW.out (Nat.le_refl _)) hb2 (Nat.le_refl _))
            have HO2 := Lib.hid (own_grow (own_grow HO1.out BW.out) hb2)
            have HZ2 := Lib.hid (own_grow (own_grow HZ1.out BW.out) hb2)
            have HF2 := Lib.hid (owns_mono hs (Nat.le_trans HR.out.bl.size (Nat.le_trans HB1.out.size BW.out.size)))
            have HLW := Lib.hid (wayL_len false a b i)
            clear hs hb2 r3 C2
            go_wp2_with (at_builtin; refine wpList_append_own_at _ rfl _ _ 27 rfl w.heap.size 48 i0 (.agg #[.int .i64 0, .int .i64 0]) 2 16 Try.underlying27 hi hz0 hz1 hz2 rfl (by decide) u13 (wayL false a b i).length (flat (wayL false a b i)) rfl (HO2.out.alloc _) ⟨w2.heap.size, 0, none⟩ 1 1 [.int .i64 1, .int .i64 0] rfl rfl (cells_two_new _ _ _ _) (by simp [Value.oneCell']) (by unfold maxLen; have := HLW.out; omega) (by have := HLW.out; omega) (Nat.le_trans HB2.out.size (by simp)) ?_; intro v' w3 hown' hgrow hnil hat'; have HR3 := Lib.hid (show OwnP w3 w.heap.size v' (wayL false a b (i + 1)) from by rw [HWS.out, HST.out]; unfold OwnP; rw [flat_snoc, List.length_append, List.length_singleton]; exact hown'); have HB3 := Lib.hid (own_belowP HO2.out HB2.out hgrow); have HZ3 := Lib.hid ((HZ2.out.alloc _).kept hgrow (own_differ HZ2.out HO2.out (by decide))); have HF3 := Lib.hid ((HF2.out.alloc _).kept hgrow (own_differ HF2.out HO2.out (by decide))); clear hown' hgrow hnil hat')
            have hl1 : slLen v' = i + 1 := by rw [own_len HR3.out, wayL_len]
            exact ⟨⟨i + 1, by omega, hl1, Lib.hid ⟨HB3.out, HZ3.out, by rw [HOS.out]; exact HF3.out, HR3.out⟩⟩, by rw [hl1, HSL.out]; omega⟩
      · obtain rfl : i = j := by omega
        have hhas : decide (amt ∈ [(orb false a b i).1, (orb false a b i).2]) = true := decide_eq_true (by
          simp only [List.mem_cons, List.not_mem_nil, or_false]
          exact hyes.imp Eq.symm Eq.symm)
        rw [hhas] at HHAS
        clear hhas hno hyes
        go_wp2_with fail
        refine HHAS.out.mono ?_
        rintro e w1 ⟨rfl, hb1⟩
        have HB1 := Lib.hid (Below.andThen HR.out.bl hb1 (Nat.le_refl _))
        have HO1 := Lib.hid (own_grow HR.out.out hb1)
        clear hb1 HHAS
        go_wp2_with fail
        go_ret
        exact ⟨_, rfl, HO1.out, HB1.out⟩
end Go.Proofs.Ytlamppplnojpbaa
