import Derived.Test.YtlehddifcjklgaaBf
import Derived.Maps.OwnIn
import Derived.Maps.OwnSet
import Derived.Maps.AppendAt
import Derived.RangeFuncNested
import Derived.RangeFuncBound
import Derived.RangeFuncCalls
import Derived.RangeFuncLeaves
import Derived.Shelf.Abstract
import Derived.Shelf.RegionOpen
import Derived.WalkKit
import Derived.OwnWalkIn
import Derived.TacticsInMore
import Derived.LoopNIn
import Derived.LoopIn
import Derived.WalkMore
import Derived.Sort.QuietThIn
import Derived.Sort.QuietTacIn
import Derived.Sort.BigQuietIn
import Derived.WalkSpells
import Derived.WalkLawsBesides
import Derived.BigQuiet
import Derived.Deep.QuietTactic
import Derived.Lib.Hide
import Derived.Deep.RegionHeld3
import Derived.StillTailTactics
import Derived.Deep.LoopGhost
import Derived.Lib.IndexAny
namespace Go.Proofs.Ytlehddifcjklgaa
open Go.RowKit Go.Shelf
attribute [local go_sem] Oper.semAt_some
section
variable {P : Program} {w : World}
theorem step_append_own {ops : Array Oper} {o : Oper} {a : Act} {K : Act → World → Prop} {Q : Exit → Act → World → Prop} {E : Prop} (hgd : o.guard = none) (s x : Operand) (t : TypeId) (ho : o.op = .call { callee := .builtin .append, args := #[s, x], argTypes := #[t, t] })
    (base : Nat) (e : TypeId) (i : TypeInfo) (z : Value) (size bytes : Nat) (ht : P.underlying t = some (.slice e)) (hi : P.info? e = some i) (hz : i.zero = some z)
    (hsize : i.size = size) (hby : i.bytes = bytes) (hzs : z.cells.size = size) (hsz : 0 < size)
    (v : Value) (n : Nat) (xs : List Value) (hs : a.eval s = v) (hown : w.ownsRow base e size v n xs)
    (ad : Addr) (m c : Nat) (news : List Value) (hx : a.eval x = .slice (some ad) m c) (hl : news.length = m * size) (hnews : ∀ j u, news[j]? = some u → w.cell? (ad.add j) = some u) (h1 : ∀ u ∈ news, u.oneCell' = true)
    (h63 : n + m ≤ maxLen) (hbytes : (n + m) * bytes ≤ 140737488355328) (hbase : base ≤ w.heap.size)
    (h : ∀ v' w', w'.ownsRow base e size v' (n + m) (xs ++ news) → w.grownBy w' v.ownBlock → (v'.ownBlock = v.ownBlock ∨ v'.ownBlock = some w.heap.size) → K (a.put o.dst v') w') :
    if Region.wanted o (yielded ops a.tmps) = true then Oper.wp P o a w K Q else E := by
  have hw : Region.wanted o (yielded ops a.tmps) = true := by simp [Region.wanted, hgd]
  rw [if_pos hw]
  obtain ⟨v', w', hr, h2, h3, _, h5⟩ := run_append_own_at (P := P) w base t o.type e i z size bytes ht hi hz hsize hby hzs hsz v n xs hown ad m c news hl hnews h1 h63 hbytes hbase
  unfold Oper.wp execOp
  simp only [ho, resolve, invoke, builtin, Sem.run_bind, Sem.run_pure, Result.andThen_ok, List.map_toArray, List.map_cons, List.map_nil, hs, hx, hr]
  exact h v' w' h2 h3 h5
end
theorem own_belowP {n₀ e s : Nat} {W w2 : World} {k : Nat} {v : Value} {xs : List Value} (h : W.ownsRow n₀ e s v k xs) {w : World} (hw : n₀ = w.heap.size) (hb : Below w.heap.size w W) {W1 : World} (h1 : Below w.heap.size w W1) (hg : W1.grownBy w2 v.ownBlock) : Below w.heap.size w w2 :=
  h1.grown hg (h1.size) (fun r e => by
    rcases h.2 with ⟨rfl, _⟩ | ⟨g', cap, cur, rfl, h1, _⟩
    · simp [Value.ownBlock] at e
    · simp [Value.ownBlock] at e; omega)
theorem cell_two_at (w : World) (x y : Value) (t : TypeId) (n : Nat) (hn : w.heap.size = n) : ∀ j u, [x, y][j]? = some u → (w.alloc (.cells #[x, y] t)).cell? ((⟨n, 0, none⟩ : Addr).add j) = some u := by
  intro j u hu
  subst hn
  rw [Go.WideShapes.add_plain, cell_al, if_pos rfl]
  rcases j with _ | _ | j
  · simpa using hu
  · simpa using hu
  · simp at hu
theorem u64_wrap (x : Int) : IntKind.u64.wrap x = x % 18446744073709551616 := by
  simp [IntKind.wrap, IntKind.signed, IntKind.bits]
theorem w64_of {x : Int} (h : -9223372036854775808 ≤ x) (h' : x ≤ 9223372036854775807) : wrap64 x = x := by unfold wrap64; omega
def pk (p : Pt) : Pt := (p.1 % 18446744073709551616 % 2001 - 1000, 1 + p.2 % 18446744073709551616 % 100)
theorem pk_raw (q1 q2 : Int) : pk (q1, q2) = ((IntKind.i64.wrap (IntKind.i64.wrap ((IntKind.u64.wrap q1).tmod 2001) - 1000)), (IntKind.i64.wrap (1 + IntKind.i64.wrap ((IntKind.u64.wrap q2).tmod 100)))) := by
  have t1 : (IntKind.u64.wrap q1).tmod 2001 = q1 % 18446744073709551616 % 2001 := by rw [u64_wrap]; exact Int.tmod_eq_emod_of_nonneg (by omega)
  have t2 : (IntKind.u64.wrap q2).tmod 100 = q2 % 18446744073709551616 % 100 := by rw [u64_wrap]; exact Int.tmod_eq_emod_of_nonneg (by omega)
  rw [t1, t2, i64_of (q1 % 18446744073709551616 % 2001) (by omega) (by omega), i64_of (q2 % 18446744073709551616 % 100) (by omega) (by omega), i64_of (q1 % 18446744073709551616 % 2001 - 1000) (by omega) (by omega), i64_of (1 + q2 % 18446744073709551616 % 100) (by omega) (by omega)]
  rfl
def planksF (ps : List Pt) : List Pt := if ps = [] then [(-2, 4)] else (ps.take 12).map pk
set_option maxRecDepth 100000 in
set_option maxHeartbeats 1000000 in
theorem planks_any (ps : List Pt) (a : Option Addr) (c : Nat) (w : World) (hp : PtsA w a ps c) (hl : ps.length ≤ maxLen) (hz : ∀ q ∈ ps, InI q.1 ∧ InI q.2) :
    Calls Try.prog 51 #[.slice a ps.length c] w fun e w' => ∃ v, e = .returned v ∧ OwnP w' w.heap.size v (planksF ps) ∧ Below w.heap.size w w' := by
  obtain ⟨i0, hi, hz0, hz1, hz2⟩ := info_parts info58
  have HP := Lib.hid hp
  have HZ := Lib.hid hz
  clear hp hz
  have hl63 : (ps.length : Int) ≤ 9223372036854775807 := by unfold maxLen at hl; omega
  go_enter Try.func51, Try.ntmps51
  go_wp2_with fail
  go_loopw [3, 4] (fun v i wr => ∃ k : Nat, k ≤ ps.length ∧ k ≤ 12 ∧ i = .int .i64 (k : Int) ∧ Hid (OwnP wr w.heap.size v ((ps.take k).map pk)) ∧ Hid (Below w.heap.size w wr)) (fun _ i _ => 12 - (intOf i).toNat)
  case atStart => exact ⟨0, by omega, by omega, rfl, Lib.hid (World.ownsRow_nil _ _ _ _), Lib.hid (Below.refl _ _)⟩
  case round =>
    obtain ⟨k, hk, hk12, rfl, HR, HB⟩ := hrel
    by_cases hlt : k < ps.length
    · have hd : decide ((k : Int) < (ps.length : Int)) = true := decide_eq_true (by omega)
      by_cases h12 : k < 12
      · have hd2 : decide ((k : Int) < 12) = true := decide_eq_true (by omega)
        obtain ⟨b, o, rfl, hpp, hcc⟩ : ∃ b o, a = some ⟨b, o, none⟩ ∧ PtsAt w b o ps ∧ ps.length ≤ c := by
          rcases HP.out with h | h
          · subst h; simp at hlt
          · exact h
        have hx := hpp.x k hlt
        have hy := hpp.y k hlt
        have hzz := HZ.out _ (List.getElem_mem hlt)
        have HS := Lib.hid (show (ps.take (k + 1)).map pk = (ps.take k).map pk ++ [pk ps[k]] by rw [List.take_succ_eq_append_getElem hlt, List.map_append]; rfl)
        generalize ps[k] = q at *
        obtain ⟨q1, q2⟩ := q
        dsimp only at hx hy hzz
        have hpl := hpp.lt
        clear hpp
        have hpk := pk_raw q1 q2
        rw [hpk] at HS
        clear hpk
        have SS := Lib.hid (show ∀ W, Below w.heap.size w W → W.cell? ⟨b, o + k * 2, none⟩ = some (.int .i64 q1) ∧ W.cell? ⟨b, o + k * 2 + 1, none⟩ = some (.int .i64 q2) from fun W h => ⟨below_at h hpl hx, below_at h hpl hy⟩)
        have BD := Lib.hid (show Below w.heap.size w wr.drew from HB.out.drew)
        have HRD := Lib.hid (own_grow HR.out ((Below.refl wr.heap.size wr).drew))
        clear hx hy hzz
        go_wp2_with fail
        go_region_held3 (fun W => W.cell? ⟨b, o + k * 2, none⟩ = some (.int .i64 q1) ∧ W.cell? ⟨b, o + k * 2 + 1, none⟩ = some (.int .i64 q2))
          (first
            | exact SS.out _ BD.out
            | exact SS.out _ (Below.al BD.out (Nat.le_refl _) _)
            | exact SS.out _ B2.out)
          (first
            | (refine step_append_own rfl _ _ 22 rfl w.heap.size 58 i0 (.agg #[.int .i64 0, .int .i64 0]) 2 16 Try.underlying22 hi hz0 hz1 hz2 rfl (by decide) _ _ _ rfl (World.ownsRow.alloc HRD.out _) _ 1 1 [.int .i64 (IntKind.i64.wrap (IntKind.i64.wrap ((IntKind.u64.wrap q1).tmod 2001) - 1000)), .int .i64 (IntKind.i64.wrap (1 + IntKind.i64.wrap ((IntKind.u64.wrap q2).tmod 100)))] rfl rfl (cell_two_at _ _ _ _ _ rfl) (by simp [Value.oneCell']) (by rw [List.length_map, List.length_take]; unfold maxLen; omega) (by rw [List.length_map, List.length_take]; omega) (Nat.le_trans BD.out.size (by simp)) ?_; intro v' w2 hown' hgrow hat; have HR2 := Lib.hid hown'; have B2 := Lib.hid (own_belowP HRD.out rfl BD.out (Below.al BD.out (Nat.le_refl _) _) hgrow); clear hown' hgrow hat))
        clear SS BD HRD
        go_wp2_with fail
        go_roundw
        case rel => exact ⟨k + 1, by omega, by omega, rfl, Lib.hid (by rw [HS.out]; have h := HR2.out; unfold OwnP; rw [flat_append, List.length_append]; exact h), B2⟩
        case measure => simp [intOf]; omega
      · have hd2 : decide ((k : Int) < 12) = false := decide_eq_false (by omega)
        obtain rfl : k = 12 := by omega
        have hps : ps ≠ [] := fun h => by subst h; simp at hlt
        have hll : ((ps.take 12).map pk).length = 12 := by rw [List.length_map, List.length_take]; omega
        obtain ⟨a2, c2, rfl, _⟩ := HR.out.open
        rw [hll]
        clear hd
        have HR' := Lib.hid (show OwnP wr w.heap.size (.slice a2 12 c2) (planksF ps) by have h := HR.out; rw [hll] at h; unfold planksF; rw [if_neg hps]; exact h)
        clear HR
        go_wp2_with fail
        go_ret
        exact ⟨_, rfl, HR'.out, HB.out⟩
    · have hd : decide ((k : Int) < (ps.length : Int)) = false := decide_eq_false (by omega)
      obtain rfl : k = ps.length := by omega
      obtain ⟨a2, c2, rfl, _⟩ := HR.out.open
      have hll : ((ps.take ps.length).map pk).length = ps.length := by rw [List.length_map, List.length_take]; omega
      rw [hll]
      by_cases h0 : ps = []
      · have d3 : ((ps.length : Int) == 0) = true := by simp [h0]
        have hF := Lib.hid (show planksF ps = [(-2, 4)] by unfold planksF; rw [if_pos h0])
        clear h0 HR
        go_wp2_with fail
        go_ret
        refine ⟨_, rfl, ?_, Below.al HB.out (Nat.le_refl _) _⟩
        rw [hF.out]
        refine ⟨rfl, .inr ⟨_, 1, _, rfl, HB.out.size, (Row.new wr 58 (flat [(-2, 4)])), Nat.le_refl _, by unfold maxLen; omega, rfl, rfl⟩⟩
      · have d3 : ((ps.length : Int) == 0) = false := by simpa using h0
        have HR' := Lib.hid (show OwnP wr w.heap.size (.slice a2 ps.length c2) (planksF ps) by
          have h := HR.out; rw [hll] at h; unfold planksF; rw [if_neg h0, List.take_of_length_le hk12]
          rw [List.take_length] at h; exact h)
        clear HR h0
        go_wp2_with fail
        go_ret
        exact ⟨_, rfl, HR'.out, HB.out⟩
end Go.Proofs.Ytlehddifcjklgaa
