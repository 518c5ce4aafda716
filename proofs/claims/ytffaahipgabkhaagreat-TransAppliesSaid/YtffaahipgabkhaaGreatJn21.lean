/- Joined texts. -/
import Derived.Test.YtffaahipgabkhaaGreatJn0
import Derived.Test.YtffaahipgabkhaaGreatJn20
set_option linter.unusedVariables false
set_option linter.unusedSimpArgs false
set_option maxRecDepth 100000
set_option maxHeartbeats 16000000
section
namespace Go.Proofs.YtffaahipgabkhaaGreat
open Go.RowKit Fg Reg Go.Maps Go.Sort
attribute [local irreducible] Reg.wE VR
theorem eff2_append {P : Program} {Cl : List (Nat × Value) → World → Prop} {k : Nat} {ps : List (Nat × Value)} {o : Oper} {ρ : Act} {w w' : World} {sv xv v : Value} (s x : Operand) (t : TypeId)
  (ho : o.op = .call { callee := .builtin .append, args := #[s, x], argTypes := #[t, t] }) (hs : ρ.eval s = sv) (hx : ρ.eval x = xv) (hr : (Builtin.append_ #[t, t] o.type #[sv, xv]).run P w = .ok v w') (h : Cl (ps ++ [(k, v)]) w') :
  Reg2.effUpon P Cl k ps ((execOp ρ.eval o).run P w) := by
 simp [execOp, ho, resolve, invoke, builtin, hs, hx, hr, Result.andThen, Reg2.effUpon]
 exact h
theorem oneI : OneCell (Value.int .i64) := fun _ => rfl
theorem wi_holds {z : World} {b : Nat} {D : List Int} (h : WI z b D) : Go.Sort.Holds (Value.int .i64) z b 0 D.toArray := fun j hj => by
 have hj2 : j < D.length := by simpa using hj
 rw [Nat.zero_add, getElem!_pos D.toArray j hj]
 simpa using h j hj2
theorem holds_wi {z : World} {b : Nat} {D : List Int} (h : Go.Sort.Holds (Value.int .i64) z b 0 D.toArray) : WI z b D := fun j hj => by
 have hj2 : j < D.toArray.size := by simpa using hj
 have := h j hj2
 rw [Nat.zero_add, getElem!_pos D.toArray j hj2] at this
 simpa using this
theorem only_putI (w : World) (blk off : Nat) (d : Array Int) : Only (fun k => k = blk) w (putRow (Value.int .i64) w blk off d) :=
 ⟨rfl, rfl, rfl, by simp, fun k hk hn => by simp [putRow, mapBlock, Array.getElem?_modify, show ¬ blk = k from fun h => hn h.symm]⟩
theorem tcmp_c (b cap : Nat) (d : List Int) (w : World) (hW : WI w b d) (hl : b < w.heap.size) (hsz : d.length ≤ 100000) (hcap : d.length ≤ cap) :
  Calls Tryz.prog 34 #[.slice (some ⟨b, 0, none⟩) d.length cap] w fun e w' => e = .returned (.slice (some ⟨b, 0, none⟩) (Go.Lib.compactUpTo d.toArray d.toArray.size).length cap) ∧ WI w' b (Go.Lib.compactUpTo d.toArray d.toArray.size) ∧ Only (fun k => k = b) w w' := by
 have h := AnyE.slices_Compact icmp (Value.int .i64) oneI (EqlAt.intD _ _ _) (NeqAt.intD _ _ _) 0 (fun w => by kernel_rfl) b 0 cap d.toArray w (wi_holds hW) (by simp; omega) (by simpa using hcap)
 have hle : (Go.Lib.compactUpTo d.toArray d.toArray.size).length ≤ d.toArray.size := by
  unfold Go.Lib.compactUpTo
  have := List.length_filter_le (Go.Lib.keeps d.toArray) (List.range d.toArray.size)
  simpa using this
 have hs2 : d.toArray.size = d.length := by simp
 rw [hs2] at h
 rw [hs2] at hle ⊢
 refine Calls.mono h ?_
 rintro e w' ⟨rfl, q, rfl⟩
 refine ⟨rfl, ?_, (Only.of_below (below_drewN (Below.refl _ _) q)).trans (only_putI _ _ _ _)⟩
 exact (holds_wi (holds_putRow _ _ _ _ d.toArray _ (holds_ahead _ _ q _ _ _ (wi_holds hW)) (by simp; omega))).pre
theorem tcmp_nil (w : World) : Calls Tryz.prog 34 #[.slice none 0 0] w fun ee w' => ee = .returned (.slice none 0 0) ∧ Below w.heap.size w w' := by
 go_enter Tryz.func34, Tryz.ntmps34
 go_wp2
 go_ret
 exact ⟨rfl, by first | exact Below.refl _ _ | exact bub⟩
theorem tdlf_nil (f : Value) (w : World) : Calls Tryz.prog 33 #[.slice none 0 0, f] w fun ee w' => ee = .returned (.slice none 0 0) ∧ Below w.heap.size w w' := by
 have K : Hid (∀ z, Calls Tryz.prog 66 #[.slice none 0 0, f] z fun ee w' => ee = .returned (.int .i64 (-1)) ∧ Below z.heap.size z w') := Lib.hid (fun z => by
  go_enter Tryz.func66, Tryz.ntmps66
  go_wp2_with fail
  refine wp_loop_rounds 1 ?_
  rw [rounds_succ]
  go_wp2
  go_ret
  exact ⟨rfl, by first | exact Below.refl _ _ | exact bub⟩)
 go_enter Tryz.func33, Tryz.ntmps33
 go_wp2_with (first | go_guarded | (go_at_call 66; (with_reducible refine (K.out _).mono ?_); rintro _ w1 ⟨rfl, hbel⟩; have HB := Lib.hid hbel; clear hbel))
 go_ret
 exact ⟨rfl, HB.out⟩
theorem TV.ptr {z : World} {v : Value} {f : Int → Option Cls} {L : List Int} (h : TV z v f L) : ∃ p, v = .pointer p := by
 rcases h with h | ⟨tb, mb, h, _⟩
 ·exact ⟨none, h.1⟩
 ·exact ⟨_, h⟩
theorem own_wi {w : World} {base n c : Nat} {ad : Addr} {C : List Int} (h : w.ownsRow base 3 1 (.slice (some ad) n c) n (C.map (Value.int .i64))) : ∃ b, ad = ⟨b, 0, none⟩ ∧ WI w b C ∧ base ≤ b ∧ b < w.heap.size ∧ n ≤ c ∧ c ≤ maxLen := by
 have hn : n = C.length := by have := h.1; simpa using this.symm
 rcases h.2 with ⟨h0, _⟩ | ⟨g, cap, cur, hv, hb, hg, hc, hm, hs, ht⟩
 ·cases h0
 ·simp only [Value.slice.injEq, Option.some.injEq] at hv
  obtain ⟨rfl, -, rfl⟩ := hv
  refine ⟨g, rfl, fun k hk => ⟨?_, by simp [World.frozen?, hg]⟩, hb, (Array.getElem?_eq_some_iff.1 hg).1, hc, hm⟩
  rw [cell_of_row w g k cur _ _ hg]
  have h1 : (cur.toList.take (n * 1))[k]? = cur.toList[k]? := by rw [List.getElem?_take]; simp; omega
  rw [← Array.getElem?_toList, ← h1, ht]
  simp [hk]
theorem wi_ints {z : World} {b : Nat} {C : List Int} (h : WI z b C) (hb : b < z.heap.size) : IntsV z (some ⟨b, 0, none⟩) C := fun k hk => ⟨b, 0, rfl, hb, by rw [Nat.zero_add]; exact (h k hk).1⟩
def TW (z : World) (ao : Option Addr) (cap : Nat) (T : List Int) : Prop := (ao = none ∧ cap = 0 ∧ T = []) ∨ ∃ b, ao = some ⟨b, 0, none⟩ ∧ WI z b T ∧ b < z.heap.size
theorem TW.ints {z : World} {ao : Option Addr} {cap : Nat} {T : List Int} (h : TW z ao cap T) : IntsV z ao T := by
 rcases h with ⟨_, _, rfl⟩ | ⟨b, rfl, h1, h2⟩
 ·exact fun k hk => absurd hk (Nat.not_lt_zero _)
 ·exact wi_ints h1 h2
theorem tcnf_nil (f : Value) (w : World) : Calls Tryz.prog 38 #[.slice none 0 0, f] w fun ee w' => ee = .returned (.bool false) ∧ Below w.heap.size w w' := by
 have K : Hid (∀ z, Calls Tryz.prog 66 #[.slice none 0 0, f] z fun ee w' => ee = .returned (.int .i64 (-1)) ∧ Below z.heap.size z w') := Lib.hid (fun z => by
  go_enter Tryz.func66, Tryz.ntmps66
  go_wp2_with fail
  refine wp_loop_rounds 1 ?_
  rw [rounds_succ]
  go_wp2
  go_ret
  exact ⟨rfl, by first | exact Below.refl _ _ | exact bub⟩)
 go_enter Tryz.func38, Tryz.ntmps38
 go_wp2_with (first | go_guarded | (go_at_call 66; (with_reducible refine (K.out _).mono ?_); rintro _ w1 ⟨rfl, hbel⟩; have HB := Lib.hid hbel; clear hbel))
 go_ret
 exact ⟨rfl, HB.out⟩
theorem tcnf_c {W0 : World} {B ca cb : Nat} {p : Int → Bool} (D : List Int) (K : ∀ x ∈ D, ∀ z, Only (fun k => B ≤ k) W0 z → Calls Tryz.prog 39 #[.int .i64 x, .pointer (some ⟨ca, 0, none⟩), .pointer (some ⟨cb, 0, none⟩)] z fun ee w' => ee = .returned (.bool (p x)) ∧ Below z.heap.size z w') (n : Nat) (hn : D.length = n) (hle : n ≤ 1000) (b cap : Nat) (w : World) (hO : Only (fun k => B ≤ k) W0 w) (hI : WI w b D) (hb : b < w.heap.size) :
  Calls Tryz.prog 38 #[.slice (some ⟨b, 0, none⟩) n cap, .func (.func 39) #[] #[.pointer (some ⟨ca, 0, none⟩), .pointer (some ⟨cb, 0, none⟩)]] w fun ee w' => ee = .returned (.bool (D.any p)) ∧ Below w.heap.size w w' := by
 have KI := Lib.hid (ixR_c D K n hn hle b cap w hO hI hb)
 obtain ⟨r, hr⟩ : ∃ r, D.any p = r := ⟨_, rfl⟩
 rw [hr] at KI ⊢
 clear K hn hO hI hb hr
 go_enter Tryz.func38, Tryz.ntmps38
 go_wp2_with (first | go_guarded | (go_at_call 66; (with_reducible refine KI.out.mono ?_); rintro _ w1 ⟨⟨i0, rfl, hdi, -⟩, hbel⟩; have HB := Lib.hid hbel; clear hbel))
 go_ret
 exact ⟨rfl, HB.out⟩
theorem ttou_c {z : World} {va vb : Value} {f g : Int → Option Cls} {L M : List Int} (I : TI f L) (J : TI g M) (ha : TV z va f L) (hb : TV z vb g M) :
  Calls Tryz.prog 13 #[va, vb] z fun e z' => ∃ T ao cap, e = .returned (.slice ao T.length cap) ∧ Tch f g T ∧ TW z' ao cap T ∧ Below z.heap.size z z' := by
 obtain ⟨ii, ci0, cz0, cz1, cz2⟩ := int_partsH
 have CI0 := Lib.hid ci0
 have CZ0 := Lib.hid cz0
 have CZ1 := Lib.hid cz1
 have CZ2 := Lib.hid cz2
 obtain ⟨pa, rfl⟩ := ha.ptr
 obtain ⟨pb, rfl⟩ := hb.ptr
 have hB0 : Below z.heap.size z ((z.alloc (.cells #[.pointer pa] 24)).alloc (.cells #[.pointer pb] 24)) := bub
 obtain ⟨W0, hW0⟩ : ∃ W0, ((z.alloc (.cells #[.pointer pa] 24)).alloc (.cells #[.pointer pb] 24)) = W0 := ⟨_, rfl⟩
 have hsz : W0.heap.size = z.heap.size + 2 := by rw [← hW0]; simp
 have c1 : W0.cell? ⟨z.heap.size, 0, none⟩ = some (.pointer pa) := by rw [← hW0]; simp [go_sem]
 have c2 : W0.cell? ⟨z.heap.size + 1, 0, none⟩ = some (.pointer pb) := by rw [← hW0]; simp [go_sem]
 rw [hW0] at hB0
 have hTa := ha.below hB0
 have hTb := hb.below hB0
 have HTA := Lib.hid (fun (w : World) (h : Below W0.heap.size W0 w) => hTa.below h)
 have HTB := Lib.hid (fun (w : World) (h : Below W0.heap.size W0 w) => hTb.below h)
 have KA := Lib.hid (fun (w : World) (h : Below W0.heap.size W0 w) => tids_c (hTa.below h) I)
 have KB := Lib.hid (fun (w : World) (h : Below W0.heap.size W0 w) => tids_c (hTb.below h) J)
 have hdm : ∀ x, x ∈ unl (L ++ M) → iok x := fun x hx => by
  rw [(unl_ss (L ++ M)).2 x, List.mem_append] at hx
  rcases hx with h | h
  ·exact I.iok x h
  ·exact J.iok x h
 have KD : Hid (∀ x ∈ unl (L ++ M), ∀ w, Only (fun k => W0.heap.size ≤ k) W0 w → Calls Tryz.prog 35 #[.int .i64 x, .pointer (some ⟨z.heap.size, 0, none⟩), .pointer (some ⟨(z.heap.size + 1), 0, none⟩)] w fun ee w' => ee = .returned (.bool (tsm f g x)) ∧ Below w.heap.size w w') := Lib.hid (fun x hx w ho => tto1_c hTa hTb (Nat.le_refl _) c1 c2 (by omega) (by omega) ho (hdm x hx))
 have HTC := Lib.hid (tch_of I J)
 have hL64 := I.len
 have hM64 := J.len
 have HB0 := Lib.hid hB0
 have HW0 := Lib.hid hW0
 have HSZ := Lib.hid hsz
 obtain ⟨n1, hn1⟩ : ∃ n, L.length = n := ⟨_, rfl⟩
 obtain ⟨n2, hn2⟩ : ∃ n, M.length = n := ⟨_, rfl⟩
 rw [hn1] at hL64 KA
 rw [hn2] at hM64 KB
 have HN1 := Lib.hid hn1
 have HN2 := Lib.hid hn2
 have C1 := Lib.hid c1
 have C2 := Lib.hid c2
 clear ha hb I J hTa hTb hdm c1 c2 ci0 cz0 cz1 cz2 hn1 hn2 hB0
 go_enter Tryz.func13, Tryz.ntmps13
 go_wp2
 try rw [hW0]
 have hbq : Below W0.heap.size W0 W0.drew := Below.drew (Below.refl _ _)
 have e1 := (hbq.cell (p := ⟨z.heap.size, 0, none⟩) (by show z.heap.size < _; omega)).trans C1.out
 have e2 := (hbq.cell (p := ⟨z.heap.size + 1, 0, none⟩) (by show z.heap.size + 1 < _; omega)).trans C2.out
 clear hW0
 obtain ⟨Cl, hCl⟩ : ∃ Cl : List (Nat × Value) → World → Prop, Cl = ((fun ps wz => (wz.cell? ⟨z.heap.size, 0, none⟩ = some (.pointer pa) ∧ wz.cell? ⟨z.heap.size + 1, 0, none⟩ = some (.pointer pb) ∧ W0.heap.size ≤ wz.heap.size ∧ z.heap.size + 1 < wz.heap.size ∧ Only (fun k => W0.heap.size ≤ k) W0 wz) ∧ (match ps with
  | [] => Below W0.heap.size W0 wz
  | [(_, v)] => Below W0.heap.size W0 wz ∧ wz.ownsRow W0.heap.size 3 1 v n1 (L.map (Value.int .i64))
  | [(_, v), (_, v2)] => Below W0.heap.size W0 wz ∧ wz.ownsRow W0.heap.size 3 1 v n1 (L.map (Value.int .i64)) ∧ wz.ownsRow W0.heap.size 3 1 v2 n2 (M.map (Value.int .i64))
  | [_, _, (_, v3)] => wz.ownsRow W0.heap.size 3 1 v3 (n1 + n2) ((L ++ M).map (Value.int .i64))
  | _ => True))) := ⟨_, rfl⟩; have HCl := Lib.hid hCl; clear hCl; refine Reg2.wp_region_lineS [(0, false), (2, false), (1, false), (3, false), (4, false), (5, false)] [1, 3, 4] Cl (by kernel_rfl) (by kernel_rfl) (by kernel_rfl) (by simp only [HCl.out, zD, zE]; exact ⟨⟨e1, e2, by simp, by show _ < _; simp; omega, Only.of_below hbq⟩, hbq⟩) ?_
 clear hbq e1 e2
 (repeat ((first | (refine Reg2.wS_skip gtb (by rfl) ?_) | (refine Reg2.wS_open gtb (by rfl) (by rfl) ?_; apply Exists.intro; refine ⟨fun vs wq hw => ?_, ?_⟩; (focus (simp only [HCl.out, zD, zE] at hw; go_split_ands; go_simp <;> exact ebb)))); simp only [Act.put, Nat.reduceAdd, zA, zB, zC, zD, zE]))
 refine Reg2.wS_eff gtb (by rfl) (by rfl) (fun wq hw => ?_) (fun u9 hu => ?_)
 focus
  simp only [HCl.out, zD, zE] at hw
  obtain ⟨⟨d1, d2, d3, d4, d5⟩, hbz⟩ := hw
  go_simp
  go_at_call 18
  (with_reducible refine (KA.out _ hbz).mono ?_)
  rintro e w9 ⟨r, rfl, hr, hbel⟩
  refine ⟨_, rfl, ?_⟩
  simp only [HCl.out, zD, zE]
  exact ⟨⟨(hbel.cell (p := ⟨z.heap.size, 0, none⟩) (by show z.heap.size < _; omega)).trans d1, (hbel.cell (p := ⟨z.heap.size + 1, 0, none⟩) d4).trans d2, Nat.le_trans d3 hbel.size, Nat.lt_of_lt_of_le d4 hbel.size, d5.trans (Only.of_below hbel)⟩, hbz.trans (hbel.mono d3), World.ownsRow.mono hr d3⟩
 (obtain ⟨wz, hz⟩ := hu; rw [HCl.out] at hz; (try simp only [List.nil_append, List.cons_append] at hz); (try dsimp only at hz))
 obtain ⟨-, -, hz2⟩ := hz
 obtain ⟨a1, k1, rfl⟩ := row_form hz2
 clear hz2 wz
 simp only [Act.put, Nat.reduceAdd, zA, zB, zC, zD, zE]
 (repeat ((first | (refine Reg2.wS_skip gtb (by rfl) ?_) | (refine Reg2.wS_open gtb (by rfl) (by rfl) ?_; apply Exists.intro; refine ⟨fun vs wq hw => ?_, ?_⟩; (focus (simp only [HCl.out, zD, zE] at hw; go_split_ands; go_simp <;> exact ebb)))); simp only [Act.put, Nat.reduceAdd, zA, zB, zC, zD, zE]))
 refine Reg2.wS_eff gtb (by rfl) (by rfl) (fun wq hw => ?_) (fun u9 hu => ?_)
 focus
  simp only [HCl.out, zD, zE] at hw
  obtain ⟨⟨d1, d2, d3, d4, d5⟩, hbz, hr1⟩ := hw
  go_simp
  go_at_call 18
  (with_reducible refine (KB.out _ hbz).mono ?_)
  rintro e w9 ⟨r, rfl, hr, hbel⟩
  refine ⟨_, rfl, ?_⟩
  simp only [HCl.out, zD, zE]
  exact ⟨⟨(hbel.cell (p := ⟨z.heap.size, 0, none⟩) (by show z.heap.size < _; omega)).trans d1, (hbel.cell (p := ⟨z.heap.size + 1, 0, none⟩) d4).trans d2, Nat.le_trans d3 hbel.size, Nat.lt_of_lt_of_le d4 hbel.size, d5.trans (Only.of_below hbel)⟩, hbz.trans (hbel.mono d3), row_bel hr1 hbel, World.ownsRow.mono hr d3⟩
 (obtain ⟨wz, hz⟩ := hu; rw [HCl.out] at hz; (try simp only [List.nil_append, List.cons_append] at hz); (try dsimp only at hz))
 obtain ⟨-, -, -, hz2⟩ := hz
 obtain ⟨a2, k2, rfl⟩ := row_form hz2
 clear hz2 wz
 simp only [Act.put, Nat.reduceAdd, zA, zB, zC, zD, zE]
 (repeat ((first | (refine Reg2.wS_skip gtb (by rfl) ?_) | (refine Reg2.wS_open gtb (by rfl) (by rfl) ?_; apply Exists.intro; refine ⟨fun vs wq hw => ?_, ?_⟩; (focus (simp only [HCl.out, zD, zE] at hw; go_split_ands; go_simp <;> exact ebb)))); simp only [Act.put, Nat.reduceAdd, zA, zB, zC, zD, zE]))
 refine Reg2.wS_eff gtb (by rfl) (by rfl) (fun wq hw => ?_) (fun u9 hu => ?_)
 focus
  simp only [HCl.out, zD, zE] at hw
  obtain ⟨⟨d1, d2, d3, d4, d5⟩, hbz, hr1, hr2⟩ := hw
  have hrun : ∃ v' w', (Builtin.append_ #[36, 36] 36 #[.slice a1 n1 k1, .slice a2 n2 k2]).run Tryz.prog wq = .ok v' w' ∧ w'.ownsRow W0.heap.size 3 1 v' (n1 + n2) ((L ++ M).map (Value.int .i64)) ∧ wq.grownBy w' (Value.slice a1 n1 k1).ownBlock := by
   rcases a2 with _ | ad
   ·rcases hr2.2 with ⟨h, h0⟩ | ⟨_, _, _, h, _⟩
    ·injection h with _ _ h3
     subst h3
     subst h0
     have hM : M = [] := List.length_eq_zero_iff.1 HN2.out
     rw [hM, List.append_nil]
     exact ⟨_, _, run_append_owned_none (P := Tryz.prog) (w := wq) W0.heap.size 36 36 3 ii 1 Tryz.underlying36 CI0.out _ _ _ hr1, hr1, grown_refl _ _⟩
    ·cases h
   ·have hw2 := own_ints hr2
    obtain ⟨v', w', h1, h2, h3, _⟩ := run_append_own (P := Tryz.prog) wq W0.heap.size 36 36 3 ii _ 1 8 Tryz.underlying36 CI0.out CZ0.out CZ1.out CZ2.out rfl (by decide) (.slice a1 n1 k1) n1 (L.map (Value.int .i64)) hr1 ad n2 k2 (M.map (Value.int .i64)) (by rw [List.length_map, HN2.out, Nat.mul_one]) (fun j u hu => by
     have hj : j < M.length := by have := (List.getElem?_eq_some_iff.1 hu).1; simpa using this
     obtain ⟨b, o, he, _, hc⟩ := hw2.2 j hj
     injection he with he
     subst he
     rw [Addr.add_mid, hc, ← hu]
     simp [hj]) (fun u hu => by obtain ⟨x, _, rfl⟩ := List.mem_map.1 hu; rfl) (by unfold maxLen; omega) (by omega) d3
    exact ⟨v', w', h1, by rw [List.map_append]; exact h2, h3⟩
  obtain ⟨v', w', hrr, hr3, hg⟩ := hrun
  refine eff2_append _ _ 36 rfl rfl rfl hrr ?_
  simp only [HCl.out, zD, zE]
  have hlo := hr1.lt
  exact ⟨⟨hg.cell d1 (fun e => by have := (hlo _ e.symm).1; simp at this; omega), hg.cell d2 (fun e => by have := (hlo _ e.symm).1; simp at this; omega), Nat.le_trans d3 hg.size, Nat.lt_of_lt_of_le d4 hg.size, d5.trans ((only_grown' hg).mono fun k hk => (hlo k hk).1)⟩, hr3⟩
 (obtain ⟨wz, hz⟩ := hu; rw [HCl.out] at hz; (try simp only [List.nil_append, List.cons_append] at hz); (try dsimp only at hz))
 obtain ⟨-, hz2⟩ := hz
 obtain ⟨a3, k3, rfl⟩ := row_form hz2
 clear hz2 wz
 simp only [Act.put, Nat.reduceAdd, zA, zB, zC, zD, zE]
 (repeat ((first | (refine Reg2.wS_skip gtb (by rfl) ?_) | (refine Reg2.wS_open gtb (by rfl) (by rfl) ?_; apply Exists.intro; refine ⟨fun vs wq hw => ?_, ?_⟩; (focus (simp only [HCl.out, zD, zE] at hw; go_split_ands; go_simp <;> exact ebb)))); simp only [Act.put, Nat.reduceAdd, zA, zB, zC, zD, zE]))
 refine Reg2.wS_nil ?_; intro w' hw; simp only [HCl.out, zD, zE] at hw; clear HCl
 obtain ⟨⟨-, -, hs3, -, hO3⟩, hr3⟩ := hw
 obtain ⟨n, hn⟩ : ∃ n, n1 + n2 = n := ⟨_, rfl⟩
 have hln : (L ++ M).length = n := by rw [List.length_append, HN1.out, HN2.out, hn]
 rw [hn] at hr3 ⊢
 have HO3 := Lib.hid hO3
 have hfin : ∀ w9, Only (fun k => W0.heap.size ≤ k) W0 w9 → Below z.heap.size z w9 := fun w9 h => HB0.out.trans ⟨h.1, h.2, h.3, h.4, fun k hk => h.5 k (by have := HSZ.out; omega) (by have := HSZ.out; omega)⟩
 have HFIN := Lib.hid hfin
 rcases a3 with _ | ad
 ·rcases hr3.2 with ⟨h, h0⟩ | ⟨_, _, _, h, _⟩
  ·injection h with _ _ h3
   subst h3
   subst h0
   have hLM : L ++ M = [] := List.length_eq_zero_iff.1 hln
   rw [hLM] at HTC
   have hT : Tch f g [] := by
    have h := HTC.out
    rw [List.length_eq_zero_iff.1 (Nat.le_zero.1 (unl_len []))] at h
    exact h
   have HT := Lib.hid hT
   have KS : Hid _ := Lib.hid (sortI_c (w := w') (base := W0.heap.size) (v := .slice none 0 0) (ss := []) (World.ownsRow_nil _ _ _ _) (by decide))
   clear hO3 hr3 hfin hln hT hs3
   go_wp2_with (first
    | go_guarded
    | (go_at_call 33; (with_reducible refine (tdlf_nil _ _).mono ?_); rintro _ w6 ⟨rfl, hbel⟩; have HO6 := Lib.hid (HO5.out.trans (Only.of_below hbel)); clear hbel)
    | (go_at_call 34; (with_reducible refine (tcmp_nil _).mono ?_); rintro _ w5 ⟨rfl, hbel⟩; have HO5 := Lib.hid (HO4.out.trans (Only.of_below hbel)); clear hbel)
    | (go_at_call 32; (with_reducible refine KS.out.mono ?_); rintro _ w4 ⟨rfl, -, ho⟩; have HO4 := Lib.hid (HO3.out.trans ho); clear ho))
   go_ret
   exact ⟨[], none, 0, rfl, HT.out, .inl ⟨rfl, rfl, rfl⟩, HFIN.out _ HO6.out⟩
  ·cases h
 ·have hr4 := hr3
  rw [← hln] at hr4
  have KS := Lib.hid (sortI_c hr4 (by omega))
  obtain ⟨S, hS⟩ : ∃ S, (L ++ M).mergeSort (fun x y => decide (x ≤ y)) = S := ⟨_, rfl⟩
  have hSl : S.length = n := by rw [← hS, List.length_mergeSort, hln]
  have hun : Go.Lib.compactUpTo S.toArray S.toArray.size = unl (L ++ M) := by unfold unl; rw [hS]
  rw [hS, hln] at KS
  have HSL := Lib.hid hSl
  have HUN := Lib.hid hun
  obtain ⟨U, hU⟩ : ∃ U, unl (L ++ M) = U := ⟨_, rfl⟩
  rw [hU] at KD HTC HUN
  obtain ⟨m, hm⟩ : ∃ m, U.length = m := ⟨_, rfl⟩
  have HM := Lib.hid hm
  have hmn : m ≤ n := by
   rw [← hm, ← hU, ← hun, ← hSl]
   unfold Go.Lib.compactUpTo
   have := List.length_filter_le (Go.Lib.keeps S.toArray) (List.range S.toArray.size)
   simpa using this
  clear hr4 hr3 hO3 hfin hln hS hSl hun hU hm hs3
  go_wp2_with (first
   | go_guarded
   | (go_at_call 33; (with_reducible refine KDEL.out.mono ?_); rintro _ w6 ⟨rfl, hw6, ho6, hl6⟩; have HW6 := Lib.hid hw6; have HO6 := Lib.hid ho6; have HL6 := Lib.hid hl6; clear hw6 ho6 hl6)
   | (go_at_call 34; (with_reducible refine KCM.out.mono ?_); rintro _ w5 ⟨rfl, hw5, ho5⟩; have hOO5 := HO4.out.trans (ho5.mono (T := fun k => W0.heap.size ≤ k) fun k hk => by subst hk; exact HBB.out); have KDEL := Lib.hid (delf_c U KD.out m HM.out (by omega) b k3 (by omega) HKM.out HBB.out w5 hOO5 hw5 (Nat.lt_of_lt_of_le HBL.out ho5.size)); clear hw5 ho5 hOO5)
   | (go_at_call 32; (with_reducible refine KS.out.mono ?_); rintro _ w4 ⟨rfl, hr5, ho4⟩; have HO4 := Lib.hid (HO3.out.trans ho4); obtain ⟨b, rfl, hw4, hbb, hbl, hnk, hkm⟩ := own_wi hr5; have HBB := Lib.hid hbb; have HBL := Lib.hid hbl; have HKM := Lib.hid hkm; have KCM := Lib.hid (by have h9 := tcmp_c b k3 S w4 hw4 hbl (by rw [HSL.out]; omega) (by rw [HSL.out]; exact hnk); rw [HSL.out, HUN.out, HM.out] at h9; exact h9); clear hr5 ho4 hw4 hbb hbl hkm))
  go_ret
  exact ⟨_, _, _, rfl, HTC.out, .inr ⟨b, rfl, HW6.out, HL6.out⟩, HFIN.out _ HO6.out⟩
theorem trls_c {z : World} {va vb : Value} {f g : Int → Option Cls} {L M : List Int} (I : TI f L) (J : TI g M) (ha : TV z va f L) (hb : TV z vb g M) :
  Calls Tryz.prog 16 #[va, vb] z fun e z' => ∃ T, Tch f g T ∧ e = .returned (.bool (T.any (trl f g))) ∧ Below z.heap.size z z' := by
 obtain ⟨pa, rfl⟩ := ha.ptr
 obtain ⟨pb, rfl⟩ := hb.ptr
 have hB0 : Below z.heap.size z ((z.alloc (.cells #[.pointer pa] 24)).alloc (.cells #[.pointer pb] 24)) := bub
 obtain ⟨W0, hW0⟩ : ∃ W0, ((z.alloc (.cells #[.pointer pa] 24)).alloc (.cells #[.pointer pb] 24)) = W0 := ⟨_, rfl⟩
 have hsz : W0.heap.size = z.heap.size + 2 := by rw [← hW0]; simp
 have c1 : W0.cell? ⟨z.heap.size, 0, none⟩ = some (.pointer pa) := by rw [← hW0]; simp [go_sem]
 have c2 : W0.cell? ⟨z.heap.size + 1, 0, none⟩ = some (.pointer pb) := by rw [← hW0]; simp [go_sem]
 rw [hW0] at hB0
 have hTa := ha.below hB0
 have hTb := hb.below hB0
 have KT := Lib.hid (ttou_c I J hTa hTb)
 have hdm : ∀ x, f x ≠ g x → iok x := fun x hx => by
  cases hf : f x with
  | some c => exact I.iok x ((I.mem x).1 (by rw [hf]; rfl))
  | none =>
   cases hg : g x with
   | some d => exact J.iok x ((J.mem x).1 (by rw [hg]; rfl))
   | none => rw [hf, hg] at hx; exact absurd rfl hx
 have KX : Hid (∀ x, f x ≠ g x → ∀ w, Only (fun k => W0.heap.size ≤ k) W0 w → Calls Tryz.prog 39 #[.int .i64 x, .pointer (some ⟨z.heap.size, 0, none⟩), .pointer (some ⟨(z.heap.size + 1), 0, none⟩)] w fun ee w' => ee = .returned (.bool (trl f g x)) ∧ Below w.heap.size w w') := Lib.hid (fun x hx w ho => trl1_c I J hTa hTb (Nat.le_refl _) c1 c2 (by omega) (by omega) ho (hdm x hx))
 have HB0 := Lib.hid hB0
 have hlen : ∀ T, Tch f g T → T.length ≤ 1000 := fun T h => by
  rw [h.uniq (tch_of I J)]
  refine Nat.le_trans (List.length_filter_le _ _) ?_
  have h1 := unl_len (L ++ M)
  have h2 := I.len
  have h3 := J.len
  rw [List.length_append] at h1
  omega
 have HLEN := Lib.hid hlen
 have C1 := Lib.hid c1
 have C2 := Lib.hid c2
 have HSZ := Lib.hid hsz
 clear ha hb I J hTa hTb hdm hB0 hlen
 go_enter Tryz.func16, Tryz.ntmps16
 go_wp2_with (first
  | go_guarded
  | (go_at_call 38; (with_reducible refine KC.out.mono ?_); rintro _ w2 ⟨rfl, hbel⟩; have HB2 := Lib.hid (HB1.out.trans (hbel.mono HB1.out.size)); clear hbel)
  | (go_at_call 13; (try rw [hW0]); (with_reducible refine KT.out.mono ?_); rintro _ w1 ⟨T, ao, cap, rfl, hT, hTW, hbel⟩; have HT := Lib.hid hT; have HB1 : Hid (Below z.heap.size z w1) := Lib.hid (HB0.out.trans (hbel.mono HB0.out.size)); have KC : Hid (Calls Tryz.prog 38 #[.slice ao T.length cap, .func (.func 39) #[] #[.pointer (some ⟨z.heap.size, 0, none⟩), .pointer (some ⟨(z.heap.size + 1), 0, none⟩)]] w1 fun ee w' => ee = .returned (.bool (T.any (trl f g))) ∧ Below w1.heap.size w1 w') := Lib.hid (by rcases hTW with ⟨rfl, rfl, rfl⟩ | ⟨b, rfl, h1, h2⟩; exact tcnf_nil _ _; exact tcnf_c T (fun x hx => KX.out x ((hT.mem x).1 hx)) T.length rfl (HLEN.out T hT) b cap w1 (Only.of_below hbel) h1 h2); clear hT hTW hbel))
 go_ret
 exact ⟨_, HT.out, rfl, HB2.out⟩
end Go.Proofs.YtffaahipgabkhaaGreat
end
