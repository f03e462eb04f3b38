import Derived.Test.YtlemipnplgbckaaPG
import Derived.Laws.AppendOwn
import Derived.ChangeKeysEq
import Derived.Maps.RangeWalk
import Derived.Maps.OwnIn
import Derived.Maps.AppendAt
import Derived.RangeFuncNested
import Derived.RangeFuncBound
import Derived.RangeFuncCalls
import Derived.RangeFuncLeaves
import Derived.Shelf.Abstract
import Derived.Shelf.RegionOpen
import Derived.WalkKit
import Derived.WalkMore
import Derived.OwnWalkIn
import Derived.TacticsInMore
import Derived.LoopNIn
import Derived.LoopIn
import Derived.WalkSpells
import Derived.WalkLawsBesides
import Derived.BigQuiet
import Derived.Deep.QuietTactic
import Derived.Lib.Hide
import Derived.Deep.RegionHeld3
import Derived.StillTailTactics
import Derived.Deep.LoopGhost
import Derived.Maps.OwnSet
import Derived.Lib.IndexAny
import Derived.Sort.QuietThIn
import Derived.Sort.QuietTacIn
import Derived.Sort.BigQuietIn
import Derived.Laws.OwnMore
import Derived.DeepKeys4
import Derived.Maps.Views
import Derived.Maps.OwnOps
import Derived.Laws.OwnMore
import Derived.Deep.DeepCutAuto
import Derived.ChangeKeysEq
namespace Go.Proofs.Ytlemipnplgbckaa
open Go.RowKit Go.Shelf
attribute [local go_sem] Oper.semAt_some
theorem dt_dp (a b d : Pt) : ((dt (b.1 - a.1, b.2 - a.2) (d.1 - a.1, d.2 - a.2) : Int) : Rat) = dp a b d := by
  unfold dt dp
  simp only [Rat.intCast_add, Rat.intCast_mul, Rat.intCast_sub]
theorem shO_iff {c : Cir} (hd : 1 ≤ c.D) {a b d : Pt} : shO c a b d = true ↔ d2 c.Z a = c.ρ ∧ 0 < dp a b d := by
  unfold shO
  rw [Bool.and_eq_true, decide_eq_true_eq, decide_eq_true_eq, wh_eq c hd, ← dt_dp, ← Rat.intCast_lt_intCast]
  simp
theorem shB_iff {c : Cir} (hd : 1 ≤ c.D) {p q r : Pt} : shB c p q r = true ↔ (d2 c.Z p = c.ρ ∧ d2 c.Z q = c.ρ ∧ d2 c.Z r = c.ρ) ∧ 0 < dp p q r ∧ 0 < dp q r p ∧ 0 < dp r p q := by
  unfold shB
  rw [Bool.and_eq_true, Bool.and_eq_true, shO_iff hd, shO_iff hd, shO_iff hd]
  constructor
  · rintro ⟨⟨⟨a, b⟩, c, d⟩, e, f⟩; exact ⟨⟨a, c, e⟩, b, d, f⟩
  · rintro ⟨⟨a, c, e⟩, b, d, f⟩; exact ⟨⟨⟨a, b⟩, c, d⟩, e, f⟩
theorem fB_exists {ps : List Pt} (hne : ps ≠ []) (hnd : ps.Nodup) : ∃ i j k, i ≤ j ∧ j ≤ k ∧ k < ps.length ∧ fB ps (smC ps) (cmp3 i j k) = true := by
  obtain ⟨_, hlow, hb⟩ := sm_spec hne
  rcases force_ex hne hb with ⟨p, hp, h⟩ | ⟨p, hp, q, hq, hpq, hz, hr⟩ | ⟨p, hp, q, hq, r, hr, h1, h2, h3, a1, a2, a3, _⟩
  · have hl : ps.length = 1 := by
      match ps, hne with
      | [x], _ => rfl
      | x :: y :: l, _ =>
        have e1 := h x (by simp)
        have e2 := h y (by simp)
        subst e1
        rw [e2] at hnd
        simp at hnd
    exact ⟨0, 0, 0, Nat.le_refl _, Nat.le_refl _, by omega, by simp [cmp3, fB, hl]⟩
  · obtain ⟨i, hi, rfl⟩ := at_of_mem hp
    obtain ⟨j, hj, rfl⟩ := at_of_mem hq
    have nij : i ≠ j := by rintro rfl; exact hpq rfl
    have em : midZ (ptAt ps j) (ptAt ps i) = midZ (ptAt ps i) (ptAt ps j) := by unfold midZ; ext <;> (dsimp only; grind)
    have ed : d2 (midZ (ptAt ps i) (ptAt ps j)) (ptAt ps j) = d2 (midZ (ptAt ps i) (ptAt ps j)) (ptAt ps i) := by unfold d2 midZ; grind
    have key : ∀ a b, a < b → b < ps.length → midZ (ptAt ps a) (ptAt ps b) = (smC ps).Z → d2 (midZ (ptAt ps a) (ptAt ps b)) (ptAt ps a) = (smC ps).ρ → fB ps (smC ps) (cmp3 a b b) = true := by
      intro a b hab hbl e1 e2
      unfold cmp3
      rw [if_neg (by omega), if_pos rfl]
      show decide (ovC (ptAt ps a) (ptAt ps b) = smC ps) = true
      exact decide_eq_true (low_eq (low_rnd (by omega)) hlow (by rw [ovC_Z, e1]) (by rw [ovC_ρ, e2]))
    rw [hz] at hr
    rcases Nat.lt_or_gt_of_ne nij with h | h
    · exact ⟨i, j, j, by omega, Nat.le_refl _, hj, key i j h hj hz.symm hr⟩
    · exact ⟨j, i, i, by omega, Nat.le_refl _, hi, key j i h hi (by rw [em, hz]) (by rw [em, ed, hr])⟩
  · obtain ⟨i, hi, rfl⟩ := at_of_mem hp
    obtain ⟨j, hj, rfl⟩ := at_of_mem hq
    obtain ⟨k, hk, rfl⟩ := at_of_mem hr
    have nij : i ≠ j := by rintro rfl; unfold dp at a1; grind
    have nik : i ≠ k := by rintro rfl; unfold dp at a1; grind
    have njk : j ≠ k := by rintro rfl; unfold dp at a2; grind
    have c1 := dp_comm (ptAt ps i) (ptAt ps j) (ptAt ps k)
    have c2 := dp_comm (ptAt ps j) (ptAt ps i) (ptAt ps k)
    have c3 := dp_comm (ptAt ps k) (ptAt ps i) (ptAt ps j)
    have go : ∀ a b c, a < b → b < c → c < ps.length → d2 (smC ps).Z (ptAt ps a) = (smC ps).ρ → d2 (smC ps).Z (ptAt ps b) = (smC ps).ρ → d2 (smC ps).Z (ptAt ps c) = (smC ps).ρ → 0 < dp (ptAt ps a) (ptAt ps b) (ptAt ps c) → 0 < dp (ptAt ps b) (ptAt ps c) (ptAt ps a) → 0 < dp (ptAt ps c) (ptAt ps a) (ptAt ps b) →
        ∃ i j k, i ≤ j ∧ j ≤ k ∧ k < ps.length ∧ fB ps (smC ps) (cmp3 i j k) = true := by
      intro a b c hab hbc hcl e1 e2 e3 f1 f2 f3
      refine ⟨a, b, c, by omega, by omega, hcl, ?_⟩
      unfold cmp3
      rw [if_neg (by omega), if_neg (by omega)]
      exact (shB_iff hlow.1).2 ⟨⟨e1, e2, e3⟩, f1, f2, f3⟩
    rcases Nat.lt_or_gt_of_ne nij with a | a
    · rcases Nat.lt_or_gt_of_ne njk with b | b
      · exact go i j k a b hk h1 h2 h3 a1 (by grind) a3
      · rcases Nat.lt_or_gt_of_ne nik with c | c
        · exact go i k j c b hj h1 h3 h2 (by grind) (by grind) (by grind)
        · exact go k i j c a hj h3 h1 h2 (by grind) (by grind) (by grind)
    · rcases Nat.lt_or_gt_of_ne njk with b | b
      · rcases Nat.lt_or_gt_of_ne nik with c | c
        · exact go j i k a c hk h2 h1 h3 (by grind) (by grind) (by grind)
        · exact go j k i b c hi h2 h3 h1 (by grind) (by grind) (by grind)
      · exact go k j i b a hi h3 h2 h1 (by grind) (by grind) (by grind)
theorem own3 (W : World) (a b c : Int) : (W.alloc (.cells #[.int .i64 a, .int .i64 b, .int .i64 c] 3)).ownsRow W.heap.size 3 1 (.slice (some ⟨W.heap.size, 0, none⟩) 3 3) 3 ([a, b, c].map encI) := by
  refine ⟨rfl, .inr ⟨W.heap.size, 3, #[.int .i64 a, .int .i64 b, .int .i64 c], rfl, Nat.le_refl _, heap_alloc_new W _, by omega, by decide, rfl, rfl⟩⟩
theorem cmp3_mem {i j k n : Nat} (h1 : i ≤ j) (h2 : j ≤ k) (h3 : k < n) : ∀ x ∈ cmp3 i j k, x < n := by
  unfold cmp3
  intro x hx
  split at hx <;> split at hx <;> simp at hx <;> omega
set_option maxRecDepth 100000 in
set_option maxHeartbeats 1000000 in
theorem Force_ok (ps : List Pt) (v : Value) (w : World) (hv : SlP w v ps) (he : chkP ps = true) :
    Calls Try.prog 21 #[v] w fun e w' => ∃ i j k s, e = .returned (.tuple #[s, .int .i64 0]) ∧ (i ≤ j ∧ j ≤ k ∧ k < ps.length) ∧ fB ps (smC ps) (cmp3 i j k) = true ∧
      w'.ownsRow w.heap.size 3 1 s (cmp3 i j k).length ((cmp3 i j k).map (fun n : Nat => encI (n : Int))) ∧ Below w.heap.size w w' := by
  obtain ⟨⟨hl1, hl⟩, hps, hnd⟩ := chkP_iff.1 he
  have hne : ps ≠ [] := by intro h; rw [h] at hl1; simp at hl1
  have HC := Lib.hid (Check_any ps v w hv (by omega))
  rw [errP_ok he] at HC
  obtain ⟨c0, cs, hf⟩ := sm_filter hne
  have hsm : smC ps = minL c0 cs := by unfold smC; rw [hf]
  have HSM := Lib.hid (fun W (hb : Below w.heap.size w W) => smallest_any ps v W (hv.grow hb) hl hps c0 cs hf)
  rw [← hsm] at HSM
  have HEX := Lib.hid (fB_exists hne hnd)
  have hcb : CirB (smC ps) := circL_bd hps _ (sm_spec hne).1
  have HIF := Lib.hid (fun (W : World) (hb : Below w.heap.size w W) (vf : Value) (f : List Nat) (hf : SlI W vf (f.map natI)) (hin : ∀ i ∈ f, i < ps.length) (hfl : f.length ≤ 1000000) => isForce_any ps v vf (smC ps) f W (hv.grow hb) hf hcb hin hps hl hfl)
  have HN := Lib.hid (rfl : ps.length = ps.length)
  obtain ⟨n, hn⟩ : ∃ n, ps.length = n := ⟨_, rfl⟩
  obtain ⟨a, c, rfl, _⟩ := hv
  rw [hn] at hl HC HEX HIF HSM ⊢
  obtain ⟨F, hF⟩ : ∃ F, F = fB ps (smC ps) := ⟨_, rfl⟩
  rw [← hF] at HEX HIF ⊢
  generalize smC ps = M at *
  obtain ⟨X, Y, D, R⟩ := M
  unfold Cir.V cirV at HSM
  dsimp only at HSM HIF
  clear HN hF hn hcb hf hsm hps hnd hne he hl1
  go_enter Try.func21, Try.ntmps21
  go_wp2_with fail
  go_step3
  go_wp2_with fail
  refine HC.out.mono ?_
  rintro e w1 ⟨rfl, hb1⟩
  have B1 := Lib.hid hb1
  clear hb1 HC
  go_wp2_with fail
  refine (HSM.out _ B1.out).mono ?_
  rintro e w2 ⟨rfl, hb2⟩
  obtain ⟨b3, r3⟩ := box_start w2 30 [.int .i64 X, .int .i64 Y, .int .i64 D, .int .i64 R]
  have B2 := Lib.hid (Below.andThen (Below.andThen B1.out hb2 (Nat.le_refl _)) b3 (Nat.le_refl _))
  have R2 := Lib.hid r3
  clear hb2 HSM b3 r3 B1
  go_wp2_with fail
  go_step3
  go_wp2_with fail
  generalize w2.alloc (.cells [.int .i64 X, .int .i64 Y, .int .i64 D, .int .i64 R].toArray 30) = V at *
  go_loopw [19] (fun iv wr => ∃ i : Nat, i ≤ n ∧ iv = .int .i64 (i : Int) ∧ Hid ((∀ i' j' k', i' < i → i' ≤ j' → j' ≤ k' → k' < n → F (cmp3 i' j' k') = false) ∧ Below V.heap.size V wr)) (fun iv _ => (n - intOf iv).toNat)
  case atStart => exact ⟨0, by omega, rfl, Lib.hid ⟨fun _ _ _ h => absurd h (by omega), Below.refl _ _⟩⟩
  case round =>
    obtain ⟨i, hi, rfl, HI⟩ := hrel
    have iw : IntKind.i64.wrap ((i : Int) + 1) = ((i + 1 : Nat) : Int) := by rw [i64_of _ (by omega) (by omega)]; omega
    by_cases hlt : i < n
    · have hd : decide ((i : Int) < (n : Int)) = true := decide_eq_true (by omega)
      have hdn : decide (i < n) = true := decide_eq_true hlt
      go_wp2_with fail
      generalize hwr : wr = wi at *
      have HWR := Lib.hid hwr
      clear hwr
      go_loopw [8] (fun jv wr => ∃ j : Nat, i ≤ j ∧ j ≤ n ∧ jv = .int .i64 (j : Int) ∧ Hid ((∀ j' k', j' < j → i ≤ j' → j' ≤ k' → k' < n → F (cmp3 i j' k') = false) ∧ Below V.heap.size V wr)) (fun jv _ => (n - intOf jv).toNat)
      case atStart => exact ⟨i, Nat.le_refl _, by omega, rfl, Lib.hid ⟨fun _ _ h h' => absurd h (by omega), HI.out.2⟩⟩
      case round =>
        obtain ⟨j, hij, hj, rfl, HJ⟩ := hrel
        have jw : IntKind.i64.wrap ((j : Int) + 1) = ((j + 1 : Nat) : Int) := by rw [i64_of _ (by omega) (by omega)]; omega
        by_cases hlj : j < n
        · have hdj : decide ((j : Int) < (n : Int)) = true := decide_eq_true (by omega)
          have hdjn : decide (j < n) = true := decide_eq_true hlj
          go_wp2_with fail
          generalize hwr2 : wr = wj at *
          have HWR2 := Lib.hid hwr2
          clear hwr2
          go_loopw [9] (fun kv wr => ∃ k : Nat, j ≤ k ∧ k ≤ n ∧ kv = .int .i64 (k : Int) ∧ Hid ((∀ k', k' < k → j ≤ k' → k' < n → F (cmp3 i j k') = false) ∧ Below V.heap.size V wr)) (fun kv _ => (n - intOf kv).toNat)
          case atStart => exact ⟨j, Nat.le_refl _, by omega, rfl, Lib.hid ⟨fun _ h h' => absurd h (by omega), HJ.out.2⟩⟩
          case round =>
            obtain ⟨k, hjk, hk, rfl, HK⟩ := hrel
            have kw : IntKind.i64.wrap ((k : Int) + 1) = ((k + 1 : Nat) : Int) := by rw [i64_of _ (by omega) (by omega)]; omega
            by_cases hlk : k < n
            · have hdk : decide ((k : Int) < (n : Int)) = true := decide_eq_true (by omega)
              have hdkn : decide (k < n) = true := decide_eq_true hlk
              go_wp2_with fail
              refine (compact3_any i j k wr.heap.size wr.heap.size _ (own3 wr (i : Int) (j : Int) (k : Int)) (Nat.le_refl _)).mono ?_
              rintro e w3 ⟨rfl, ho, hb⟩
              have hb3 := hb wr (Below.al (Below.refl _ _) (Nat.le_refl _) _)
              have B3 := Lib.hid (Below.andThen HK.out.2 hb3 (Nat.le_refl _))
              have HO := Lib.hid ho
              have hsl : SlI w3 (.slice (some ⟨wr.heap.size, 0, none⟩) (cmp3 i j k).length 3) ((cmp3 i j k).map natI) := by
                have := sli_own (zs := (cmp3 i j k).map natI) (by simpa [List.map_map, Function.comp_def, natI] using ho)
                simpa using this
              have HIC := Lib.hid (HIF.out w3 (Below.andThen B2.out B3.out (Nat.le_refl _)) _ (cmp3 i j k) hsl (cmp3_mem hij hjk hlk) (by have := cmp3_len i j k; omega))
              have rc := R2.out.below B3.out R2.out.lt
              have c0 := rc.cell 0
              have c1 := rc.cell 1
              have c2 := rc.cell 2
              have c3 := rc.cell 3
              simp only [List.getElem?_cons_zero, List.getElem?_cons_succ] at c0 c1 c2 c3
              have HSZ := Lib.hid (show w.heap.size ≤ wr.heap.size from Nat.le_trans B2.out.size HK.out.2.size)
              clear ho hb hb3 hsl rc
              obtain ⟨E, hE⟩ : ∃ E, F (cmp3 i j k) = E := ⟨_, rfl⟩
              rw [hE] at HIC
              have HE := Lib.hid hE
              obtain ⟨L, hL⟩ : ∃ L, (cmp3 i j k).length = L := ⟨_, rfl⟩
              rw [hL] at HIC HO
              have HL := Lib.hid hL
              rw [hL]
              clear hE hL
              go_wp2_with fail
              refine HIC.out.mono ?_
              rintro e w4 ⟨rfl, hb4⟩
              have B4 := Lib.hid (Below.andThen B3.out hb4 (Nat.le_refl _))
              have HO4 := Lib.hid (own_grow HO.out hb4)
              clear hb4 HIC c0 c1 c2 c3
              cases E with
              | true =>
                go_wp2_with fail
                rw [Exit.noGoto_ret]
                refine bodyPost_ret (v := .tuple #[.slice (some ⟨wr.heap.size, 0, none⟩) L 3, .int .i64 0]) (by simp [results, Try.results21, go_sem]) rfl ⟨i, j, k, _, rfl, ⟨hij, hjk, hlk⟩, HE.out, ?_, Below.andThen B2.out B4.out (Nat.le_refl _)⟩
                rw [HL.out]
                exact owns_mono HO4.out HSZ.out
              | false =>
                go_wp2_with fail
                exact ⟨⟨k + 1, by omega, by omega, rfl, Lib.hid ⟨fun k' h1 h2 h3 => by
                  rcases Nat.lt_or_ge k' k with h | h
                  · exact HK.out.1 k' h h2 h3
                  · obtain rfl : k' = k := by omega
                    exact HE.out, B4.out⟩⟩, by simp [intOf]; omega⟩
            · have hdk : decide ((k : Int) < (n : Int)) = false := decide_eq_false (by omega)
              have hdkn : decide (k < n) = false := decide_eq_false hlk
              obtain rfl : k = n := by omega
              go_wp2_with fail
              exact ⟨⟨j + 1, by omega, by omega, rfl, Lib.hid ⟨fun j' k' h1 h2 h3 h4 => by
                rcases Nat.lt_or_ge j' j with h | h
                · exact HJ.out.1 j' k' h h2 h3 h4
                · obtain rfl : j' = j := by omega
                  exact HK.out.1 k' h4 h3 h4, HK.out.2⟩⟩, by simp [intOf]; omega⟩
        · have hdj : decide ((j : Int) < (n : Int)) = false := decide_eq_false (by omega)
          have hdjn : decide (j < n) = false := decide_eq_false hlj
          obtain rfl : j = n := by omega
          go_wp2_with fail
          exact ⟨⟨i + 1, by omega, rfl, Lib.hid ⟨fun i' j' k' h1 h2 h3 h4 => by
            rcases Nat.lt_or_ge i' i with h | h
            · exact HI.out.1 i' j' k' h h2 h3 h4
            · obtain rfl : i' = i := by omega
              exact HJ.out.1 j' k' (by omega) h2 h3 h4, HJ.out.2⟩⟩, by simp [intOf]; omega⟩
    · exfalso
      obtain rfl : i = n := by omega
      obtain ⟨i', j', k', h1, h2, h3, h4⟩ := HEX.out
      rw [HI.out.1 i' j' k' (by omega) h1 h2 h3] at h4
      cases h4
end Go.Proofs.Ytlemipnplgbckaa
