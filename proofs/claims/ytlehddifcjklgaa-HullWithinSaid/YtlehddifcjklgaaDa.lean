import Derived.Test.YtlehddifcjklgaaCx
import Derived.Test.YtlehddifcjklgaaTr
import Derived.Maps.OwnIn
import Derived.Maps.OwnSet
import Derived.Maps.AppendAt
import Derived.RangeFuncNested
import Derived.RangeFuncBound
import Derived.RangeFuncCalls
import Derived.RangeFuncLeaves
import Derived.Shelf.Abstract
import Derived.Shelf.RegionOpen
import Derived.WalkKit
import Derived.OwnWalkIn
import Derived.TacticsInMore
import Derived.LoopNIn
import Derived.LoopIn
import Derived.WalkMore
import Derived.Sort.QuietThIn
import Derived.Sort.QuietTacIn
import Derived.Sort.BigQuietIn
import Derived.WalkSpells
import Derived.WalkLawsBesides
import Derived.BigQuiet
import Derived.Deep.QuietTactic
import Derived.Lib.Hide
import Derived.Deep.RegionHeld3
import Derived.StillTailTactics
import Derived.Deep.LoopGhost
import Derived.Lib.IndexAny
namespace Go.Proofs.Ytlehddifcjklgaa
open Go.RowKit Go.Shelf
attribute [local go_sem] Oper.semAt_some
set_option maxRecDepth 100000 in
set_option maxHeartbeats 1000000 in
theorem has_any (zs : List Int) (x : Int) {n₀ : Nat} {v : Value} (w : World) (h : w.ownsRow n₀ 3 1 v zs.length (zs.map encI)) (h1 : zs.length ≤ 1000) :
    Calls Try.prog 57 #[v, .int .i64 x] w fun e w' => e = .returned (.bool (decide (x ∈ zs))) ∧ Below w.heap.size w w' := by
  obtain ⟨a, c, rfl, hi⟩ : ∃ a c, v = .slice a zs.length c ∧ (zs = [] ∨ ∃ g, a = some ⟨g, 0, none⟩ ∧ g < w.heap.size ∧ IntsAt w g 0 zs) := by
    rcases oints h with ⟨rfl, a, c, rfl⟩ | ⟨g, c, rfl, hg, _, hi⟩
    · exact ⟨a, c, rfl, .inl rfl⟩
    · exact ⟨_, c, rfl, .inr ⟨g, rfl, hg, hi⟩⟩
  have HI := Lib.hid hi
  obtain ⟨R, hR⟩ : ∃ R, decide (x ∈ zs) = R := ⟨_, rfl⟩
  rw [hR]
  have HR := Lib.hid hR
  clear h hi hR
  go_enter Try.func57, Try.ntmps57
  go_wp2_with fail
  go_loopw [5] (fun i wr => ∃ k : Nat, k ≤ zs.length ∧ i = .int .i64 (k : Int) ∧ Hid (x ∉ zs.take k) ∧ Hid (Below w.heap.size w wr)) (fun i _ => zs.length - (intOf i).toNat)
  case atStart => exact ⟨0, by omega, rfl, Lib.hid (by simp), Lib.hid (Below.refl _ _)⟩
  case round =>
    obtain ⟨k, hk, rfl, HN, HB⟩ := hrel
    by_cases hlt : k < zs.length
    · have hd : decide ((k : Int) < (zs.length : Int)) = true := decide_eq_true (by omega)
      obtain ⟨g, rfl, hg, hz⟩ : ∃ g, a = some ⟨g, 0, none⟩ ∧ g < w.heap.size ∧ IntsAt w g 0 zs := by
        rcases HI.out with h | h
        · subst h; simp at hlt
        · exact h
      have c1 := below_at HB.out hg (hz.at_ k hlt)
      rw [Nat.zero_add] at c1
      have S1 := Lib.hid (show zs.take (k + 1) = zs.take k ++ [zs[k]] from List.take_succ_eq_append_getElem hlt)
      have HY := Lib.hid (show x = zs[k] → R = true from fun h => by rw [← HR.out]; exact decide_eq_true (h ▸ List.getElem_mem hlt))
      generalize zs[k] = z at *
      clear hz
      by_cases hzx : z = x
      · have dd : (z == x) = true := by simp [hzx]
        have HF := Lib.hid (HY.out hzx.symm)
        clear hzx
        go_wp2_with fail
        go_ret
        exact ⟨ret_bool HF.out.symm, HB.out⟩
      · have dd : (z == x) = false := by simp [hzx]
        have HN2 := Lib.hid (show x ∉ zs.take (k + 1) by rw [S1.out]; intro h; rcases List.mem_append.1 h with h | h; exact HN.out h; exact hzx (List.mem_singleton.1 h).symm)
        clear hzx HY
        go_wp2_with fail
        refine ⟨⟨k + 1, by omega, by simp, HN2, HB⟩, ?_⟩
        simp [intOf]; omega
    · have hd : decide ((k : Int) < (zs.length : Int)) = false := decide_eq_false (by omega)
      have HF := Lib.hid (show R = false by
        rw [← HR.out]; refine decide_eq_false ?_
        have := HN.out
        rwa [List.take_of_length_le (by omega)] at this)
      go_wp2_with fail
      go_ret
      exact ⟨ret_bool HF.out.symm, HB.out⟩
set_option maxRecDepth 100000 in
set_option maxHeartbeats 1000000 in
theorem lean58_any (a b : Int) (w : World) (h1 : 0 < a) (h2 : a < 10000000000000000) (h3 : 0 < b) (h4 : b < 10000000000000000) :
    Calls Try.prog 58 #[.agg #[.int .i64 a, .int .i64 b]] w fun e w' => e = .returned (.bool true) ∧ Below w.heap.size w w' := by
  have d1 : decide (0 < a) = true := decide_eq_true h1
  have d2 : decide (a < 10000000000000000) = true := decide_eq_true h2
  have d3 : decide (0 < b) = true := decide_eq_true h3
  have d4 : decide (b < 10000000000000000) = true := decide_eq_true h4
  go_enter Try.func58, Try.ntmps58
  go_wp2_with fail
  go_ret
  exact ⟨rfl, (Below.refl _ _).alloc (Nat.le_refl _) _⟩
theorem lean_pos {ps : List Pt} (hc : chk ps = true) {s : Nat} (hs : s < ps.length) : 0 < (leanF ps (mid ps) s).1 := by
  have hS := along_pos hc hs
  have hD := mid_D hc
  have hH := height_pos hc hs
  obtain ⟨g, hg, e1, e2, e3, _⟩ := frac_spec (n := heightH ps (mid ps) s * heightH ps (mid ps) s) hS
  have e4 : 0 < (height ps (mid ps) s).1 := by
    refine Int.pos_of_mul_pos_right (a := g) ?_ (by omega)
    have : g * (height ps (mid ps) s).1 = heightH ps (mid ps) s * heightH ps (mid ps) s := e1.symm
    rw [this]; exact Int.mul_pos hH hH
  have e5 : 0 < (height ps (mid ps) s).2 := e3
  have q0 := Int.mul_pos (Int.mul_pos e5 hD) hD
  obtain ⟨k, hk, f1, f2, f3, _⟩ := frac_spec (n := (height ps (mid ps) s).1) q0
  have f1' : (height ps (mid ps) s).1 = k * (leanF ps (mid ps) s).1 := f1
  exact Int.pos_of_mul_pos_right (a := k) (by rw [← f1']; exact e4) (by omega)
theorem lean_ok {ps : List Pt} (hc : chk ps = true) {s : Nat} (hs : s < ps.length) : 0 < (leanF ps (mid ps) s).1 ∧ (leanF ps (mid ps) s).1 < 10000000000000000 ∧ 0 < (leanF ps (mid ps) s).2 ∧ (leanF ps (mid ps) s).2 < 10000000000000000 := by
  have h1 := lean_pos hc hs
  have h2 := lean_parts hc hs
  omega
/-- what a roll's places say -/
theorem rollD_at {ps : List Pt} {m : Int × Int × Int} {s : Nat} {T : List Nat} (h : RollD ps m s T) (_h3 : 3 ≤ ps.length) : ∀ (i : Nat) (hi : i < T.length), T[i] < ps.length ∧ restB ps m T[i] = decide (i + 1 = T.length) ∧
    (∀ (h0 : 0 < i), Low ps m T[i] T[i - 1] ∧ (T[i] = (T[i - 1] + 1) % ps.length ∨ T[i - 1] = (T[i] + 1) % ps.length)) := by
  induction h with
  | stop h1 h2 =>
    intro i hi
    obtain rfl : i = 0 := by simp at hi; omega
    exact ⟨h1, by rw [List.getElem_cons_zero, h2]; rfl, fun h => by omega⟩
  | @step s T h1 h2 h4 h5 ih =>
    intro i hi
    have hT : 0 < T.length := by obtain ⟨_, R, hR⟩ := h5.head; rw [hR]; simp
    cases i with
    | zero =>
      refine ⟨h1, ?_, fun h => by omega⟩
      rw [List.getElem_cons_zero, h2, eq_comm]; exact decide_eq_false (by rw [List.length_cons]; omega)
    | succ j =>
      have hj : j < T.length := by simpa using hi
      obtain ⟨a1, a2, a3⟩ := ih j hj
      refine ⟨by simpa using a1, ?_, fun _ => ?_⟩
      · rw [List.getElem_cons_succ, a2]; exact decide_eq_decide.2 (by simp)
      · cases j with
        | zero =>
          obtain ⟨_, R, hR⟩ := h5.head
          have e : T[0] = stepF ps m s := by simp [hR]
          simp only [List.getElem_cons_succ, Nat.add_sub_cancel, List.getElem_cons_zero]
          rw [e]
          refine ⟨h4, ?_⟩
          unfold stepF
          split
          · right; exact (prev_next h1).symm
          · left; rfl
        | succ k =>
          have := a3 (by omega)
          simpa using this
theorem mem_sides {p : Nat → Bool} {n s : Nat} (h : s < n) : decide (((s : Nat) : Int) ∈ sidesL p n) = p s := by
  unfold sidesL
  rw [Bool.eq_iff_iff, decide_eq_true_iff]
  simp only [List.mem_map, List.mem_filter, List.mem_range]
  constructor
  · rintro ⟨a, ⟨h1, h2⟩, h3⟩
    have : a = s := by
      have h4 : (a : Int) = (s : Int) := h3
      omega
    rw [← this]; exact h2
  · intro h2; exact ⟨s, ⟨h, h2⟩, rfl⟩
end Go.Proofs.Ytlehddifcjklgaa
