import Derived.Test.YtlamppplnojpbaaLo
import Derived.Test.YtlamppplnojpbaaZc
import Derived.Laws.AppendOwn
import Derived.ChangeKeysEq
import Derived.Maps.RangeWalk
import Derived.Maps.OwnIn
import Derived.Maps.AppendAt
import Derived.RangeFuncNested
import Derived.RangeFuncBound
import Derived.RangeFuncCalls
import Derived.RangeFuncLeaves
import Derived.Shelf.Abstract
import Derived.Shelf.RegionOpen
import Derived.WalkKit
import Derived.WalkMore
import Derived.OwnWalkIn
import Derived.TacticsInMore
import Derived.LoopNIn
import Derived.LoopIn
import Derived.WalkSpells
import Derived.WalkLawsBesides
import Derived.BigQuiet
import Derived.Deep.QuietTactic
import Derived.Lib.Hide
import Derived.Deep.DeepCutAuto
import Derived.Deep.RegionHeld3
import Derived.StillTailTactics
import Derived.Deep.LoopGhost
import Derived.Maps.OwnSet
import Derived.Lib.IndexAny
import Derived.Sort.QuietThIn
import Derived.Sort.QuietTacIn
import Derived.Sort.BigQuietIn
import Derived.Laws.OwnMore
namespace Go.Proofs.Ytlamppplnojpbaa
open Go.RowKit Go.Shelf
attribute [local go_sem] Oper.semAt_some
/-- what stands through JugPours: the jugs, the filling and the steps -/
structure PR (w wr : World) (xv fv : Value) (ss fs : List Int) (p : Option Addr) (m c : Nat) : Prop where
  bl : Below w.heap.size w wr
  x : wr.ownsRow w.heap.size 3 1 xv ss.length (ss.map encI)
  f : wr.ownsRow w.heap.size 3 1 fv fs.length (fs.map encI)
  q : ∃ qs : List Pt, qs.length = m ∧ OwnP wr w.heap.size (.slice p m c) qs
theorem PR.grow {w wr W : World} {xv fv : Value} {ss fs : List Int} {p : Option Addr} {m c : Nat} (h : PR w wr xv fv ss fs p m c) (hb : Below wr.heap.size wr W) : PR w W xv fv ss fs p m c := by
  obtain ⟨qs, h1, h2⟩ := h.q
  exact ⟨Below.andThen h.bl hb (Nat.le_refl _), own_grow h.x hb, own_grow h.f hb, qs, h1, own_grow h2 hb⟩
theorem PR.put {w wr : World} {xv fv : Value} {ss fs : List Int} {g m c : Nat} (h : PR w wr xv fv ss fs (some ⟨g, 0, none⟩) m c) (i : Nat) (hi : i < m) (A B : Int) :
    PR w ((wr.setCell ⟨g, i * 2, none⟩ (.int .i64 A)).setCell ⟨g, i * 2 + 1, none⟩ (.int .i64 B)) xv fv ss fs (some ⟨g, 0, none⟩) m c := by
  obtain ⟨qs, h1, h2⟩ := h.q
  have hg : OwnG wr w.heap.size g c qs := by unfold OwnG; rw [h1]; exact h2
  have hs := hg.set i (by omega) A B
  have hl : w.heap.size ≤ g := (hg.pts (by intro e; rw [e] at h1; simp at h1; omega)).2.2
  have k1 := grown_set wr ⟨g, i * 2, none⟩ (.int .i64 A)
  have k2 := grown_set (wr.setCell ⟨g, i * 2, none⟩ (.int .i64 A)) ⟨g, i * 2 + 1, none⟩ (.int .i64 B)
  have dx := own_differ h.x h2 (by decide)
  have df := own_differ h.f h2 (by decide)
  refine ⟨(h.bl.setCell (p := ⟨g, i * 2, none⟩) hl _).setCell (p := ⟨g, i * 2 + 1, none⟩) hl _, (h.x.kept k1 dx).kept k2 dx, (h.f.kept k1 df).kept k2 df, qs.set i (A, B), by rw [List.length_set]; exact h1, ?_⟩
  unfold OwnG at hs
  rw [List.length_set, h1] at hs
  exact hs
set_option maxRecDepth 100000 in
set_option maxHeartbeats 4000000 in
theorem JugPours_any (zs ms : List Int) (ps : List Pt) (v u x : Value) (w : World) (hv : SlI w v zs) (hu : SlI w u ms) (hx : SlP w x ps) (h1 : zs.length ≤ 9223372036854775807) (h2 : ms.length ≤ 9223372036854775807) (h3 : ps.length ≤ 9223372036854775807) :
    Calls Try.prog 5 #[v, u, x] w fun e w' => e = .returned (.bool true) ∧ Below w.heap.size w w' := by
  obtain ⟨i0, hi, hz0, hz1, hz2⟩ := info_parts info48
  have HT := Lib.hid (tame_any zs v 4 (by omega) w hv h1)
  have hj0 := tameF_jugs zs 4 (by omega)
  have hF := fun (x : Value) (W : World) (hx : SlI W x (tameF zs 4)) (hb : Below w.heap.size w W) => filled_any (tameF zs 4) ms x u W hx (hu.grow hb) hj0 h2
  have hfit0 := filF_fits ms hj0
  generalize tameF zs 4 = ss at *
  generalize filF ss ms = fs at *
  have HJ := Lib.hid hj0
  have HFI := Lib.hid hfit0
  have HF := Lib.hid hF
  obtain ⟨xa, xc, rfl, hxc, hxs⟩ := hx
  have HXS := Lib.hid hxs
  have hn := jugsB_len hj0
  clear hj0 hfit0 hF hv hu h1 h2 hxs
  go_enter Try.func5, Try.ntmps5
  go_wp2_with fail
  refine HT.out.mono ?_
  rintro e w1 ⟨xv, rfl, hx, hb1⟩
  have HX1 := Lib.hid hx
  have HB1 := Lib.hid hb1
  clear hx hb1 HT
  go_wp2_with fail
  refine (HF.out xv w1 (sli_own HX1.out) HB1.out).mono ?_
  rintro e w2 ⟨fv, rfl, hf, hb2⟩
  have HF2 := Lib.hid (owns_mono hf HB1.out.size)
  have HX2 := Lib.hid (own_grow HX1.out hb2)
  have HB2 := Lib.hid (Below.andThen HB1.out hb2 (Nat.le_refl _))
  clear hf hb2 HF HX1 HB1
  go_upto_region 4 with fail
  go_cut [9] (fun wv wx => ∃ p m c, wv = .slice p m c ∧ m ≤ 60 ∧ Hid (PR w wx xv fv ss fs p m c))
  case first =>
    by_cases h0 : ps = []
    · subst h0
      rw [List.length_nil]
      rcases xa with _ | a
      all_goals
        go_wp2_with fail
        try simp only [Sem.run_pure, Result.andThen_ok]
        go_wp2_with fail
        go_meet
        exact ⟨none, 0, 0, rfl, by omega, Lib.hid ⟨HB2.out, HX2.out, HF2.out, [], rfl, World.ownsRow_nil _ _ _ _⟩⟩
    · obtain ⟨g, o, rfl, hps⟩ := HXS.out.resolve_left h0
      have hpos : 0 < ps.length := List.length_pos_iff.2 h0
      have HPS := Lib.hid (hps.grow HB2.out)
      clear hps h0
      rcases (show ps.length < 60 ∨ 60 < ps.length ∨ ps.length = 60 by omega) with hc | hc | hc
      · have HL := Lib.hid (show (ps.take ps.length).length = ps.length by rw [List.length_take]; omega)
        go_wp2_with (at_builtin; refine wpList_append_own_at _ rfl _ _ 27 rfl w.heap.size 48 i0 (.agg #[.int .i64 0, .int .i64 0]) 2 16 Try.underlying27 hi hz0 hz1 hz2 rfl (by decide) (.slice none 0 0) 0 [] rfl (World.ownsRow_nil _ _ _ _) ⟨g, o, none⟩ ps.length xc (flat (ps.take ps.length)) rfl (by rw [flat_length, HL.out]) (pts_cells HPS.out ps.length) (flat_one' _) (by unfold maxLen; omega) (by omega) HB2.out.size ?_; intro v' w3 hown hgrow hnil hat'; have HR3 := Lib.hid (show ∃ qs : List Pt, qs.length ≤ 60 ∧ OwnP w3 w.heap.size v' qs from ⟨ps.take ps.length, by rw [HL.out]; omega, by unfold OwnP; rw [HL.out]; simpa using hown⟩); have HP3 := Lib.hid (show Below w.heap.size w w3 ∧ w3.ownsRow w.heap.size 3 1 xv ss.length (ss.map encI) ∧ w3.ownsRow w.heap.size 3 1 fv fs.length (fs.map encI) from ⟨HB2.out.grown hgrow HB2.out.size (fun k e => by cases e), HX2.out.kept hgrow (by cases hx : xv.ownBlock <;> simp [Value.ownBlock]), HF2.out.kept hgrow (by cases hx : fv.ownBlock <;> simp [Value.ownBlock])⟩); clear hown hgrow hnil hat')
        all_goals try (exfalso; omega)
        all_goals
          obtain ⟨qs, hq6, hqo⟩ := HR3.out
          obtain ⟨p, c, rfl, _⟩ := OwnP.open hqo
          go_meet
          exact ⟨p, qs.length, c, rfl, hq6, Lib.hid ⟨HP3.out.1, HP3.out.2.1, HP3.out.2.2, qs, rfl, hqo⟩⟩
      · have HL := Lib.hid (show (ps.take 60).length = 60 by rw [List.length_take]; omega)
        go_wp2_with (at_builtin; refine wpList_append_own_at _ rfl _ _ 27 rfl w.heap.size 48 i0 (.agg #[.int .i64 0, .int .i64 0]) 2 16 Try.underlying27 hi hz0 hz1 hz2 rfl (by decide) (.slice none 0 0) 0 [] rfl (World.ownsRow_nil _ _ _ _) ⟨g, o, none⟩ 60 xc (flat (ps.take 60)) rfl (by rw [flat_length, HL.out]) (pts_cells HPS.out 60) (flat_one' _) (by unfold maxLen; omega) (by omega) HB2.out.size ?_; intro v' w3 hown hgrow hnil hat'; have HR3 := Lib.hid (show ∃ qs : List Pt, qs.length ≤ 60 ∧ OwnP w3 w.heap.size v' qs from ⟨ps.take 60, by rw [HL.out]; omega, by unfold OwnP; rw [HL.out]; simpa using hown⟩); have HP3 := Lib.hid (show Below w.heap.size w w3 ∧ w3.ownsRow w.heap.size 3 1 xv ss.length (ss.map encI) ∧ w3.ownsRow w.heap.size 3 1 fv fs.length (fs.map encI) from ⟨HB2.out.grown hgrow HB2.out.size (fun k e => by cases e), HX2.out.kept hgrow (by cases hx : xv.ownBlock <;> simp [Value.ownBlock]), HF2.out.kept hgrow (by cases hx : fv.ownBlock <;> simp [Value.ownBlock])⟩); clear hown hgrow hnil hat')
        all_goals try (exfalso; omega)
        all_goals
          obtain ⟨qs, hq6, hqo⟩ := HR3.out
          obtain ⟨p, c, rfl, _⟩ := OwnP.open hqo
          go_meet
          exact ⟨p, qs.length, c, rfl, hq6, Lib.hid ⟨HP3.out.1, HP3.out.2.1, HP3.out.2.2, qs, rfl, hqo⟩⟩
      · have HL := Lib.hid (show (ps.take ps.length).length = ps.length by rw [List.length_take]; omega)
        have HL6 := Lib.hid (show (ps.take 60).length = 60 by rw [List.length_take]; omega)
        have hc6 : ps.length ≤ 60 := by omega
        have hc7 : 60 ≤ ps.length := by omega
        clear hc
        go_wp2_with (first | (at_builtin; refine wpList_append_own_at _ rfl _ _ 27 rfl w.heap.size 48 i0 (.agg #[.int .i64 0, .int .i64 0]) 2 16 Try.underlying27 hi hz0 hz1 hz2 rfl (by decide) (.slice none 0 0) 0 [] rfl (World.ownsRow_nil _ _ _ _) ⟨g, o, none⟩ ps.length xc (flat (ps.take ps.length)) rfl (by rw [flat_length, HL.out]) (pts_cells HPS.out ps.length) (flat_one' _) (by unfold maxLen; omega) (by omega) HB2.out.size ?_; intro v' w3 hown hgrow hnil hat'; have HR3 := Lib.hid (show ∃ qs : List Pt, qs.length ≤ 60 ∧ OwnP w3 w.heap.size v' qs from ⟨ps.take ps.length, by rw [HL.out]; omega, by unfold OwnP; rw [HL.out]; simpa using hown⟩); have HP3 := Lib.hid (show Below w.heap.size w w3 ∧ w3.ownsRow w.heap.size 3 1 xv ss.length (ss.map encI) ∧ w3.ownsRow w.heap.size 3 1 fv fs.length (fs.map encI) from ⟨HB2.out.grown hgrow HB2.out.size (fun k e => by cases e), HX2.out.kept hgrow (by cases hx : xv.ownBlock <;> simp [Value.ownBlock]), HF2.out.kept hgrow (by cases hx : fv.ownBlock <;> simp [Value.ownBlock])⟩); clear hown hgrow hnil hat') | (at_builtin; refine wpList_append_own_at _ rfl _ _ 27 rfl w.heap.size 48 i0 (.agg #[.int .i64 0, .int .i64 0]) 2 16 Try.underlying27 hi hz0 hz1 hz2 rfl (by decide) (.slice none 0 0) 0 [] rfl (World.ownsRow_nil _ _ _ _) ⟨g, o, none⟩ 60 xc (flat (ps.take 60)) rfl (by rw [flat_length, HL6.out]) (pts_cells HPS.out 60) (flat_one' _) (by unfold maxLen; omega) (by omega) HB2.out.size ?_; intro v' w3 hown hgrow hnil hat'; have HR3 := Lib.hid (show ∃ qs : List Pt, qs.length ≤ 60 ∧ OwnP w3 w.heap.size v' qs from ⟨ps.take 60, by rw [HL6.out]; omega, by unfold OwnP; rw [HL6.out]; simpa using hown⟩); have HP3 := Lib.hid (show Below w.heap.size w w3 ∧ w3.ownsRow w.heap.size 3 1 xv ss.length (ss.map encI) ∧ w3.ownsRow w.heap.size 3 1 fv fs.length (fs.map encI) from ⟨HB2.out.grown hgrow HB2.out.size (fun k e => by cases e), HX2.out.kept hgrow (by cases hx : xv.ownBlock <;> simp [Value.ownBlock]), HF2.out.kept hgrow (by cases hx : fv.ownBlock <;> simp [Value.ownBlock])⟩); clear hown hgrow hnil hat'))
        all_goals try (exfalso; omega)
        all_goals
          obtain ⟨qs, hq6, hqo⟩ := HR3.out
          obtain ⟨p, c, rfl, _⟩ := OwnP.open hqo
          go_meet
          exact ⟨p, qs.length, c, rfl, hq6, Lib.hid ⟨HP3.out.1, HP3.out.2.1, HP3.out.2.2, qs, rfl, hqo⟩⟩
  case rest =>
    obtain ⟨p, m, c, rfl, hm, HPR⟩ := hcut
    clear HB2 HX2 HF2 HXS
    go_wp2_with fail
    go_loopw [10] (fun rv wr => ∃ r : Nat, r ≤ 2 ∧ rv = .int .i64 (r : Int) ∧ Hid (PR w wr xv fv ss fs p m c)) (fun rv _ => (2 - intOf rv).toNat)
    case atStart => exact ⟨0, by omega, by simp, HPR⟩
    case round =>
      clear HPR
      obtain ⟨r, hr, rfl, HP⟩ := hrel
      have kw : IntKind.i64.wrap ((r : Int) + 1) = ((r + 1 : Nat) : Int) := by rw [i64_of _ (by omega) (by omega)]; omega
      by_cases hr2 : r < 2
      · have hd1 : decide ((r : Int) < 2) = true := decide_eq_true (by omega)
        have hd1n : decide (r < 2) = true := decide_eq_true hr2
        obtain ⟨qs, hql, hq⟩ := HP.out.q
        have HPO := Lib.hid (Pour_ok ss fs qs _ _ _ wr (sli_own HP.out.x) (sli_own HP.out.f) (slp_own hq) HJ.out HFI.out (by omega))
        have HRP := Lib.hid (fun W (hb : Below wr.heap.size wr W) => refPour_any ss fs qs _ _ _ W (sli_own (own_grow HP.out.x hb)) (sli_own (own_grow HP.out.f hb)) (slp_own (own_grow hq hb)) HJ.out HFI.out (by omega))
        have hgl : (goF ss fs (qs.takeWhile (okP ss.length))).length ≤ 1000 := by
          rw [goF_len]
          have := (fits_pad HJ.out HFI.out).2.2
          omega
        generalize goF ss fs (qs.takeWhile (okP ss.length)) = G at *
        have htw : (qs.takeWhile (okP ss.length)).length ≤ 60 := Nat.le_trans (List.takeWhile_prefix _).length_le (by omega)
        generalize (qs.takeWhile (okP ss.length)).length = t at *
        clear hq hql
        go_wp2_with fail
        refine HPO.out.mono ?_
        rintro e w3 ⟨s, rfl, hs, hb3⟩
        have HS3 := Lib.hid (sli_own hs)
        have HB3 := Lib.hid hb3
        clear hs hb3 HPO
        go_wp2_with fail
        refine (HRP.out w3 HB3.out).mono ?_
        rintro e w4 ⟨y, rfl, hy, hb4⟩
        have HI := Lib.hid (ints_sli G G s y w4 (HS3.out.grow hb4) hy hgl hgl)
        rw [decide_eq_true rfl] at HI
        have HB4 := Lib.hid (Below.andThen HB3.out hb4 (Nat.le_refl _))
        clear hb4 hy HRP HB3 HS3
        have htt : ((t : Int) != (t : Int)) = false := by simp
        go_wp2_with fail
        refine HI.out.mono ?_
        rintro e w5 ⟨rfl, hb5⟩
        have HP5 := Lib.hid (HP.out.grow (Below.andThen HB4.out hb5 (Nat.le_refl _)))
        clear hb5 HI HB4 HP
        go_wp2_with fail
        obtain ⟨xg, xcap, rfl, _⟩ := own_slice HP5.out.x (by omega)
        go_loopw [16] (fun iv wr => ∃ i : Nat, i ≤ m ∧ iv = .int .i64 (i : Int) ∧ Hid (PR w wr (.slice (some ⟨xg, 0, none⟩) ss.length xcap) fv ss fs p m c)) (fun iv _ => (m - intOf iv).toNat)
        case atStart => exact ⟨0, by omega, by simp, HP5⟩
        case round =>
          clear HP5
          obtain ⟨i, hi', rfl, HQ⟩ := hrel
          have iw : IntKind.i64.wrap ((i : Int) + 1) = ((i + 1 : Nat) : Int) := by rw [i64_of _ (by omega) (by omega)]; omega
          by_cases him : i < m
          · have hd2 : decide ((i : Int) < (m : Int)) = true := decide_eq_true (by omega)
            have hd2n : decide (i < m) = true := decide_eq_true him
            obtain ⟨qs, hql, hq⟩ := HQ.out.q
            obtain ⟨g, rfl, hpt⟩ : ∃ g, p = some ⟨g, 0, none⟩ ∧ PtsAt wr g 0 qs := by
              obtain ⟨a, c', e, h⟩ := OwnP.open hq
              cases e
              rcases h with ⟨_, _, h⟩ | ⟨g, _, h, h2, _⟩
              · rw [h] at him; exact absurd him (by simp)
              · exact ⟨g, h, h2⟩
            have hog : OwnG wr w.heap.size g c qs := by unfold OwnG; rw [hql]; exact hq
            have hiq : i < qs.length := by rw [hql]; exact him
            have c1 := hpt.x i hiq
            have c2 := hpt.y i hiq
            have z1 := hog.frozen (i * 2)
            have z2 := hog.frozen (i * 2 + 1)
            rw [Nat.zero_add] at c1 c2
            generalize qs[i].1 = px at *
            generalize qs[i].2 = py at *
            clear hq hpt hog hql hiq
            have HN := Lib.hid hn
            go_wp2_with fail
            all_goals first
              | exact ⟨⟨i + 1, by omega, by simp, Lib.hid ((HQ.out.put i him _ _).put i him _ _)⟩, by simp [intOf]; omega⟩
              | exact ⟨⟨i + 1, by omega, by simp, Lib.hid (HQ.out.put i him _ _)⟩, by simp [intOf]; omega⟩
          · have hd2 : decide ((i : Int) < (m : Int)) = false := decide_eq_false (by omega)
            have hd2n : decide (i < m) = false := decide_eq_false him
            go_wp2_with fail
            exact ⟨⟨r + 1, by omega, by simp, HQ⟩, by simp [intOf]; omega⟩
      · have hd1 : decide ((r : Int) < 2) = false := decide_eq_false (by omega)
        have hd1n : decide (r < 2) = false := decide_eq_false hr2
        go_wp2_with fail
        refine (awake_any _).mono ?_
        rintro e w3 ⟨rfl, hb⟩
        have HE := Lib.hid (Below.andThen HP.out.bl hb (Nat.le_refl _))
        clear hb
        go_wp2_with fail
        go_ret
        exact ⟨rfl, HE.out⟩
end Go.Proofs.Ytlamppplnojpbaa
