/- spans.Since. -/
import Derived.Test.YtkbglhkhhoakgaaSp6
import Derived.Deep.Onto
namespace Go.Proofs.Ytkbglhkhhoakgaa
set_option linter.unusedVariables false
set_option linter.unusedSimpArgs false
set_option maxRecDepth 100000
open Go.RowKit Fg Reg
attribute [local irreducible] Reg.wE

theorem u64_info : (Try.prog.info? 45).map (fun i => (i.zero, i.size, i.bytes)) = some (some (.int .u64 0), 1, 8) := by kernel_rfl
theorem u64_parts : ∃ i, Try.prog.info? 45 = some i ∧ i.zero = some (.int .u64 0) ∧ i.size = 1 ∧ i.bytes = 8 := by
  obtain ⟨i, hi, h⟩ := Option.map_eq_some_iff.1 u64_info
  simp only [Prod.mk.injEq] at h
  exact ⟨i, hi, h.1, h.2.1, h.2.2⟩
set_option maxHeartbeats 8000000 in
theorem since_c (zs : List Int) (es : List Ev) (a a2 : Option Addr) (c c2 : Nat) (hn : es.length ≤ 100000) (hn2 : zs.length ≤ 100000) (w : World) (hE : EvsV w a es) (hZ : IntsV w a2 zs) :
    Calls Try.prog 32 #[.slice a es.length c, .slice a2 zs.length c2] w fun e w' => (∃ v, e = .returned v ∧ w'.ownsRow w.heap.size 45 1 v (srun zs es es.length).rows.length (((srun zs es es.length).rows).map (fun x => Value.int .u64 (Sp.fr x)))) ∧ Below w.heap.size w w' := by
  obtain ⟨ii, II0, IZ0, IZ1, IZ2⟩ := u64_parts
  have KO := Lib.hid (ofv_c zs es a a2 c c2 hn hn2 w hE hZ)
  have SI := Lib.hid sp_info5
  have hrl := rows_len zs es
  clear hE hZ
  generalize (srun zs es es.length).rows = rows at KO hrl
  go_enter Try.func32, Try.ntmps32
  go_wp2_with (go_at_call 30; (with_reducible refine (KO.out).mono ?_); rintro e w1 ⟨⟨ao, cap, rfl, hS⟩, hb⟩)
  have HS := Lib.hid hS
  have hsz := hb.size
  clear KO hS
  go_loopw [5, 12] (fun uo i wr => ∃ (j : Nat) (vo : Value), j ≤ rows.length ∧ i = .int .i64 j ∧ vo = uo ∧ wr.ownsRow w1.heap.size 45 1 vo j (((rows.take j)).map (fun x => Value.int .u64 (Sp.fr x))) ∧ Below w1.heap.size w1 wr) (fun _ i _ => rows.length - (intOf i).toNat)
  case atStart => exact ⟨0, _, Nat.zero_le _, rfl, rfl, World.ownsRow_nil _ _ _ _, Below.refl _ _⟩
  case round =>
    obtain ⟨j, vo, hj, rfl, rfl, hO, hB1⟩ := hrel
    have hs2 := hB1.size
    by_cases hlt : j < rows.length
    · obtain ⟨g, rfl, hg0, hg, hr⟩ := (HS.out.below hB1) j hlt
      have hO1 := Lib.hid (fun ob => hO.alloc ob)
      have hO0 := Lib.hid hO
      have HE := Lib.hid (take_snoc'' rows j hlt)
      clear hO
      generalize rows[j] = x at hr HE
      obtain ⟨fr, tt, fi, la, op⟩ := x
      have HF : RowKit.Hid (∀ (w5 : World) (v' : Value) (ob ob2 : Obj), w5.ownsRow w1.heap.size 45 1 v' (j + 1) ((((rows.take j)).map (fun x => Value.int .u64 (Sp.fr x))) ++ [Value.int .u64 fr]) → ((wr.alloc ob).alloc ob2).grownBy w5 vo.ownBlock → w5.ownsRow w1.heap.size 45 1 v' (j + 1) (((rows.take (j + 1))).map (fun x => Value.int .u64 (Sp.fr x))) ∧ Below w1.heap.size w1 w5) := Lib.hid (by
        intro w5 v' ob ob2 h1 h2
        refine ⟨?_, below_grown ((by repeat' (first | with_reducible exact Below.refl _ _ | with_reducible assumption | ((with_reducible refine Below.drew ?_)) | ((with_reducible refine below_drewN ?_ _)) | ((with_reducible refine Below.alloc ?_ ?_ _); rotate_left; focus (first | omega | (simp; done) | (simp; omega))) | ((with_reducible refine Below.setCell ?_ ?_ _); rotate_left; focus (first | omega | (simp; done) | (simp; omega))) | ((with_reducible refine Below.trans ?_ (Below.mono (by with_reducible assumption) ?_)); rotate_left; focus (first | omega | (simp; done) | (simp; omega)))))) h2 (by simp; omega) (own_blk hO0.out)⟩
        rw [HE.out, List.map_append]; exact h1)
      go_wp2_with (first
        | (refine wpList_load_mid rfl 67 _ rfl g (j * 5) rfl _ _ hr Try.underlying67 rfl SI.out ?_)
        | (refine wpList_store_new rfl 67 _ _ rfl _ #[.int .u64 fr, .int .u64 tt, .int .i64 fi, .int .i64 la, .bool op] rfl rfl SI.out rfl (all_oneCell_toArray (Sp.one ⟨fr, tt, fi, la, op⟩)) ?_)
        | (at_builtin; refine wpList_append_own _ rfl _ _ 42 rfl (w1.heap.size) 45 ii (.int .u64 0) 1 8 Try.underlying42 II0 IZ0 IZ1 IZ2 rfl (by decide) _ (j) _ rfl ((hO1.out _).alloc _) ⟨_, 0, none⟩ 1 1 [.int .u64 (fr)] rfl rfl ?c1 ?c2 ?c3 ?c4 ?c5 ?_))
      (case c1 => (intro j u hu; rcases j with _ | j <;> simp at hu <;> (try subst hu) <;> simp [Addr.add, go_sem])); (case c2 => (intro u hu; simp at hu; subst hu; rfl)); (case c3 => (unfold maxLen; omega)); (case c4 => omega); (case c5 => (simp; omega))
      intro v' w5 hown' hgrow _
      go_wp2
      go_roundw
      case rel => exact ⟨j + 1, _, by omega, by go_num, rfl, (HF.out _ _ _ _ (by simpa using hown') hgrow).1, (HF.out _ _ _ _ (by simpa using hown') hgrow).2⟩
      case measure => simp [intOf]; omega
    · obtain rfl : j = rows.length := by omega
      rw [List.take_length] at hO
      clear hlt HS
      go_wp2
      go_ret
      exact ⟨⟨_, rfl, hO.mono hb.size⟩, hb.trans (hB1.mono hb.size)⟩
end Go.Proofs.Ytkbglhkhhoakgaa
