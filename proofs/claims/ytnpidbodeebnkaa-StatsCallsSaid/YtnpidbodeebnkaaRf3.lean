/- The reference: Gone. -/
import Derived.Test.YtnpidbodeebnkaaRf2
import Derived.Test.YtnpidbodeebnkaaAppR
namespace Go.Proofs.Ytnpidbodeebnkaa
set_option linter.unusedVariables false
set_option linter.unusedSimpArgs false
set_option maxRecDepth 100000
open Go.RowKit Fg Reg Go.Maps
attribute [local irreducible] Reg.wN Reg.wE QR

theorem rw_take {α : Type} {r : α → List Value} {s : Nat} (ao : Option Addr) (xs : List α) {n cap c : Nat} (hn : xs.length = n) (hc : n ≤ cap) (hcn : c ≤ n) : ∃ so sc, sliced ao 0 c cap s = .slice so c sc ∧ ∀ z, RwV r s z ao xs → RwV r s z so (xs.take c) := by
  refine ⟨_, _, rfl, fun z h k hk => ?_⟩
  have hk2 : k < xs.length ∧ k < c := by simp at hk; omega
  obtain ⟨b, o, rfl, hb, hr⟩ := h k hk2.1
  have h0 : cap ≠ 0 := by omega
  refine ⟨b, o, by simp [Addr.add], hb, ?_⟩
  simpa using hr
theorem rw_drop {α : Type} {r : α → List Value} {s : Nat} (ao : Option Addr) (xs : List α) {n cap c : Nat} (hn : xs.length = n) (hc : n ≤ cap) (hcn : c ≤ n) : ∃ so sc, sliced ao c n cap s = .slice so (n - c) sc ∧ ∀ z, RwV r s z ao xs → RwV r s z so (xs.drop c) := by
  refine ⟨_, _, rfl, fun z h k hk => ?_⟩
  have hk2 : c + k < xs.length := by simp at hk; omega
  obtain ⟨b, o, rfl, hb, hr⟩ := h (c + k) hk2
  have h0 : cap ≠ c := by omega
  refine ⟨b, o + c * s, by rw [if_neg h0]; simp [Addr.add], hb, ?_⟩
  have e : o + c * s + k * s = o + (c + k) * s := by rw [Nat.add_mul]; omega
  rw [e]
  simpa using hr
theorem pk7_parts : ∃ i, Try.prog.info? 33 = some i ∧ i.zero = some (.agg #[.int .i64 0, .int .u64 0, .int .u64 0, .int .i64 0, .bool false, .bool false]) ∧ i.size = 6 ∧ i.bytes = 40 := by
  have h : (Try.prog.info? 33).map (fun i => (i.zero, i.size, i.bytes)) = some (some (.agg #[.int .i64 0, .int .u64 0, .int .u64 0, .int .i64 0, .bool false, .bool false]), 6, 40) := by kernel_rfl
  obtain ⟨i, hi, h⟩ := Option.map_eq_some_iff.1 h
  simp only [Prod.mk.injEq] at h
  exact ⟨i, hi, h.1, h.2.1, h.2.2⟩
theorem sl7_take (ao : Option Addr) (n cap c : Nat) (hc : c ≤ n) (hn : n ≤ cap) (W : World) : (Instr.slice 26 (.slice ao n cap) none (some (.int .i64 (c : Int))) none).run Try.prog W = .ok (sliced ao 0 c cap 6) W := by
  rw [run_slice_h W 26 ao n cap (by kernel_rfl) .i64 (c : Int) (by omega) (by omega)]
  rfl
theorem sl7_drop (ao : Option Addr) (n cap c : Nat) (hc : c ≤ n) (W : World) : (Instr.slice 26 (.slice ao n cap) (some (.int .i64 (c : Int))) none none).run Try.prog W = .ok (sliced ao c n cap 6) W := by
  rw [run_slice_l W 26 ao n cap (by kernel_rfl) .i64 (c : Int) (by omega) (by omega)]
  rfl
theorem sl_some {a : Addr} {l h m s : Nat} {so : Option Addr} {n sc : Nat} (e : sliced (some a) l h m s = .slice so n sc) : ∃ d, so = some d := by
  unfold sliced at e
  injection e with e1 e2 e3
  rw [← e1]
  split
  · exact ⟨_, rfl⟩
  · exact ⟨_, rfl⟩
set_option maxHeartbeats 1000000 in
theorem rg7_c (l : List PK) (n : Nat) (hn : l.length = n) (hle : n ≤ 1000) (i : Nat) (hi : i < l.length) (dn ln : Int) (rl : Bool) (ao : Option Addr) (cap : Nat) (hcap : n ≤ cap) (w : World) (hR : RwV PK.cells 6 w ao l) :
    Calls Try.prog 9 #[.slice ao n cap, .int .i64 (i : Int), .int .u64 dn, .int .i64 ln, .bool rl] w fun e w' => ∃ v, e = .returned v ∧ w'.ownsRow w.heap.size 33 6 v n ((goneL l i (gone1 l[i] dn ln rl)).flatMap PK.cells) ∧ Below w.heap.size w w' := by
  obtain ⟨ip, ci0, cz0, cz1, cz2⟩ := pk7_parts
  have CI0 := Lib.hid ci0
  have CZ0 := Lib.hid cz0
  have CZ1 := Lib.hid cz1
  have CZ2 := Lib.hid cz2
  have hin : i < n := by omega
  obtain ⟨b, o, rfl, hb, hra⟩ := hR i hi
  obtain ⟨t1, tc1, ht1, hT1⟩ := rw_take (r := PK.cells) (s := 6) (some ⟨b, o, none⟩) l hn hcap (Nat.le_of_lt hin)
  obtain ⟨d1, rfl⟩ := sl_some ht1
  obtain ⟨t2, tc2, ht2, hT2⟩ := rw_drop (r := PK.cells) (s := 6) (c := i + 1) (some ⟨b, o, none⟩) l hn hcap hin
  obtain ⟨d2, rfl⟩ := sl_some ht2
  have sl1 : ∀ W, (Instr.slice 26 (.slice (some ⟨b, o, none⟩) n cap) none (some (.int .i64 (i : Int))) none).run Try.prog W = .ok (.slice (some d1) i tc1) W := fun W => by rw [sl7_take _ n cap i (Nat.le_of_lt hin) hcap W, ht1]
  have sl2 : ∀ W, (Instr.slice 26 (.slice (some ⟨b, o, none⟩) n cap) (some (.int .i64 ((i : Int) + 1))) none none).run Try.prog W = .ok (.slice (some d2) (n - (i + 1)) tc2) W := fun W => by have := sl7_drop (some ⟨b, o, none⟩) n cap (i + 1) hin W; rw [ht2] at this; simpa using this
  have HTK := Lib.hid (hT1 w hR)
  have HDR := Lib.hid (hT2 w hR)
  have HLT : Hid ((l.take i).length = i) := Lib.hid (by simp; omega)
  have HLD : Hid ((l.drop (i + 1)).length = n - (i + 1)) := Lib.hid (by simp; omega)
  obtain ⟨q, hq⟩ : ∃ q, l[i] = q := ⟨_, rfl⟩
  rw [hq] at hra ⊢
  have HRA := Lib.hid hra
  have HBL := Lib.hid hb
  have hc0 := hra 0 _ rfl
  have hc1 := hra 1 _ rfl
  have HC0 := Lib.hid hc0
  have HC1 := Lib.hid hc1
  have HGL : Hid ((goneL l i (gone1 q dn ln rl)).flatMap PK.cells = ((l.take i).flatMap PK.cells ++ PK.cells (gone1 q dn ln rl)) ++ (l.drop (i + 1)).flatMap PK.cells) := Lib.hid (by unfold goneL; rw [List.flatMap_append, List.flatMap_cons, List.append_assoc])
  obtain ⟨L1, hL1⟩ : ∃ y, l.take i = y := ⟨_, rfl⟩
  obtain ⟨L2, hL2⟩ : ∃ y, l.drop (i + 1) = y := ⟨_, rfl⟩
  rw [hL1] at HTK HLT HGL
  rw [hL2] at HDR HLD HGL
  obtain ⟨G, hG⟩ : ∃ y, (goneL l i (gone1 q dn ln rl)).flatMap PK.cells = y := ⟨_, rfl⟩
  rw [hG] at HGL ⊢
  clear ci0 cz0 cz1 cz2 hR hra hb hT1 hT2 ht1 ht2 hn hi hq hc0 hc1 hL1 hL2 hG
  go_enter Try.func9, Try.ntmps9
  go_wp2_with (first
    | (at_builtin; refine wpList_append_rows rfl _ _ 26 rfl w.heap.size 33 ip (.agg #[.int .i64 0, .int .u64 0, .int .u64 0, .int .i64 0, .bool false, .bool false]) 6 40 Try.underlying26 CI0.out CZ0.out CZ1.out CZ2.out rfl (by decide) (.slice none 0 0) 0 [] rfl (World.ownsRow_nil _ _ _ _) pkcC L1 (some d1) tc1 (by rw [HLT.out]; rfl) (HTK.out) (fun h => by cases h) (by have h1 := HLT.out; have h2 := HLD.out; unfold maxLen; omega) (by have h1 := HLT.out; have h2 := HLD.out; omega) (Nat.le_refl _) ?_; intro v1 w1 hown1 hg1; (have hb1 : Below w.heap.size w w1 := (Only.of_grown (B := w.heap.size) hg1 (fun k hk => by simp [Value.ownBlock] at hk)).below (Below.refl _ _) (Nat.le_refl _) (fun k hk => hk)); obtain ⟨a1, c1, rfl⟩ := row_form hown1; have HO1 := Lib.hid hown1; have HB1 := Lib.hid hb1; clear hg1 hown1 hb1))
  have hO1 : w1.ownsRow w.heap.size 33 6 (.slice a1 L1.length c1) L1.length (L1.flatMap PK.cells) := by have h9 := HO1.out; simpa using h9
  have hbq : Below w1.heap.size w1 w1.drew := Below.drew (Below.refl _ _)
  have hB1d := HB1.out.trans (hbq.mono HB1.out.size)
  have hO1d := row_bel hO1 hbq
  have k0 := (hB1d.cell (p := ⟨b, o + i * 6, none⟩) HBL.out).trans HC0.out
  have k1 := (hB1d.cell (p := ⟨b, o + i * 6 + 1, none⟩) HBL.out).trans HC1.out
  have kl := Nat.lt_of_lt_of_le HBL.out hB1d.size
  obtain ⟨Cl, hCl⟩ : ∃ Cl : List (Nat × Value) → World → Prop, Cl = ((fun ps wz => (wz.cell? ⟨b, o + i * 6, none⟩ = some (.int .i64 q.cl) ∧ wz.cell? ⟨b, o + i * 6 + 1, none⟩ = some (.int .u64 q.ta) ∧ b < wz.heap.size ∧ Below w.heap.size w wz) ∧ (match ps with
    | [] => wz.ownsRow w.heap.size 33 6 (.slice a1 L1.length c1) L1.length (L1.flatMap PK.cells)
    | [(_, sl)] => ∃ b', sl = .slice (some ⟨b', 0, none⟩) 1 1 ∧ (∀ j u, (PK.cells (gone1 q dn ln rl))[j]? = some u → wz.cell? ((⟨b', 0, none⟩ : Addr).add j) = some u) ∧ wz.ownsRow w.heap.size 33 6 (.slice a1 L1.length c1) L1.length (L1.flatMap PK.cells)
    | [_, (_, v')] => wz.ownsRow w.heap.size 33 6 v' (L1.length + 1) (L1.flatMap PK.cells ++ PK.cells (gone1 q dn ln rl))
    | _ => True))) := ⟨_, rfl⟩; have HCl := Lib.hid hCl; clear hCl; refine Reg2.wp_region_lineS [(0, false), (1, false), (2, false), (3, false), (4, false), (5, false), (6, false), (7, false), (8, false), (9, false), (10, false), (11, false), (12, false), (13, false), (14, false), (15, false), (16, false), (17, false)] [15, 16] Cl (by kernel_rfl) (by kernel_rfl) (by kernel_rfl) (by rw [HCl.out]; (try simp only [List.nil_append, List.cons_append]); (try dsimp only); exact ⟨⟨k0, k1, kl, hB1d⟩, hO1d⟩) ?_
  clear hO1 hbq hB1d hO1d k0 k1 kl
  (repeat (first | (refine Reg2.wS_skip (by (simp only [List.getElem?_toArray, List.getElem?_cons_succ, List.getElem?_cons_zero]) <;> rfl) (by rfl) ?_; simp only [Act.put, Nat.reduceAdd, List.setIfInBounds_toArray, List.set_cons_zero, List.set_cons_succ, List.nil_append, List.cons_append]) | (refine Reg2.wS_open (by (simp only [List.getElem?_toArray, List.getElem?_cons_succ, List.getElem?_cons_zero]) <;> rfl) (by rfl) (by rfl) ?_; apply Exists.intro; refine ⟨fun vs wq hw => ?_, ?_⟩; (focus (rw [HCl.out] at hw; (try simp only [List.nil_append, List.cons_append] at hw); (try dsimp only at hw); go_split_ands; go_simp <;> first | with_reducible exact (rfl : Value.bool false = _) | with_reducible exact (rfl : Value.bool true = _) | ((try go_bits) <;> exact rfl))); simp only [Act.put, Nat.reduceAdd, List.setIfInBounds_toArray, List.set_cons_zero, List.set_cons_succ, List.nil_append, List.cons_append])))
  refine Reg2.wS_eff (by (simp only [List.getElem?_toArray, List.getElem?_cons_succ, List.getElem?_cons_zero]) <;> rfl) (by rfl) (by rfl) (fun wq hw => ?_) (fun u9 hu => ?_)
  focus
    rw [HCl.out] at hw; (try simp only [List.nil_append, List.cons_append] at hw); (try dsimp only at hw)
    obtain ⟨⟨y0, y1, y2, hB⟩, hO⟩ := hw
    go_simp
    rw [HCl.out]; (try simp only [List.nil_append, List.cons_append]); (try dsimp only)
    have hbA := Below.alloc (Below.refl wq.heap.size wq) (Nat.le_refl _) (.cells (PK.cells (gone1 q dn ln rl)).toArray 33)
    have hB2 := hB.trans (hbA.mono hB.size)
    exact ⟨⟨(hbA.cell y2).trans y0, (hbA.cell y2).trans y1, Nat.lt_of_lt_of_le y2 hbA.size, hB2⟩, wq.heap.size, rfl, (fun j u hu => by (rcases j with _ | _ | _ | _ | _ | _ | j <;> simp [PK.cells, gone1] at hu <;> (try subst hu) <;> simp [Addr.add, go_sem])), row_bel hO hbA⟩
  (obtain ⟨wz, hz⟩ := hu; rw [HCl.out] at hz; (try simp only [List.nil_append, List.cons_append] at hz); (try dsimp only at hz))
  obtain ⟨-, b', rfl, -⟩ := hz
  clear wz
  simp only [Act.put, Nat.reduceAdd, List.setIfInBounds_toArray, List.set_cons_zero, List.set_cons_succ, List.nil_append, List.cons_append]
  (repeat (first | (refine Reg2.wS_skip (by (simp only [List.getElem?_toArray, List.getElem?_cons_succ, List.getElem?_cons_zero]) <;> rfl) (by rfl) ?_; simp only [Act.put, Nat.reduceAdd, List.setIfInBounds_toArray, List.set_cons_zero, List.set_cons_succ, List.nil_append, List.cons_append]) | (refine Reg2.wS_open (by (simp only [List.getElem?_toArray, List.getElem?_cons_succ, List.getElem?_cons_zero]) <;> rfl) (by rfl) (by rfl) ?_; apply Exists.intro; refine ⟨fun vs wq hw => ?_, ?_⟩; (focus (rw [HCl.out] at hw; (try simp only [List.nil_append, List.cons_append] at hw); (try dsimp only at hw); go_split_ands; go_simp <;> first | with_reducible exact (rfl : Value.bool false = _) | with_reducible exact (rfl : Value.bool true = _) | ((try go_bits) <;> exact rfl))); simp only [Act.put, Nat.reduceAdd, List.setIfInBounds_toArray, List.set_cons_zero, List.set_cons_succ, List.nil_append, List.cons_append])))
  refine Reg2.wS_eff (by (simp only [List.getElem?_toArray, List.getElem?_cons_succ, List.getElem?_cons_zero]) <;> rfl) (by rfl) (by rfl) (fun wq hw => ?_) (fun u9 hu => ?_)
  focus
    rw [HCl.out] at hw; (try simp only [List.nil_append, List.cons_append] at hw); (try dsimp only at hw)
    obtain ⟨⟨y0, y1, y2, hB⟩, bq, hbe, hcs, hO⟩ := hw
    obtain rfl : b' = bq := by simpa using hbe
    obtain ⟨v', w2, hr, hown2, hg2, -⟩ := run_append_own (P := Try.prog) wq w.heap.size 26 26 33 ip (.agg #[.int .i64 0, .int .u64 0, .int .u64 0, .int .i64 0, .bool false, .bool false]) 6 40 Try.underlying26 CI0.out CZ0.out CZ1.out CZ2.out rfl (by decide) (.slice a1 L1.length c1) L1.length (L1.flatMap PK.cells) hO ⟨b', 0, none⟩ 1 1 (PK.cells (gone1 q dn ln rl)) rfl hcs (pkcC.one _) (by have h1 := HLT.out; unfold maxLen; omega) (by have h1 := HLT.out; omega) hB.size
    refine eff2_append _ _ 26 rfl rfl rfl hr ?_
    rw [HCl.out]; (try simp only [List.nil_append, List.cons_append]); (try dsimp only)
    have hB2 := hB.grown hg2 hB.size (fun k hk => (hO.lt k hk).1)
    exact ⟨⟨(hB2.cell (p := ⟨b, o + i * 6, none⟩) HBL.out).trans HC0.out, (hB2.cell (p := ⟨b, o + i * 6 + 1, none⟩) HBL.out).trans HC1.out, Nat.lt_of_lt_of_le HBL.out hB2.size, hB2⟩, hown2⟩
  (obtain ⟨wz, hz⟩ := hu; rw [HCl.out] at hz; (try simp only [List.nil_append, List.cons_append] at hz); (try dsimp only at hz))
  obtain ⟨-, hz2⟩ := hz
  obtain ⟨a3, c3, rfl⟩ := row_form hz2
  clear hz2 wz
  simp only [Act.put, Nat.reduceAdd, List.setIfInBounds_toArray, List.set_cons_zero, List.set_cons_succ, List.nil_append, List.cons_append]
  (repeat (first | (refine Reg2.wS_skip (by (simp only [List.getElem?_toArray, List.getElem?_cons_succ, List.getElem?_cons_zero]) <;> rfl) (by rfl) ?_; simp only [Act.put, Nat.reduceAdd, List.setIfInBounds_toArray, List.set_cons_zero, List.set_cons_succ, List.nil_append, List.cons_append]) | (refine Reg2.wS_open (by (simp only [List.getElem?_toArray, List.getElem?_cons_succ, List.getElem?_cons_zero]) <;> rfl) (by rfl) (by rfl) ?_; apply Exists.intro; refine ⟨fun vs wq hw => ?_, ?_⟩; (focus (rw [HCl.out] at hw; (try simp only [List.nil_append, List.cons_append] at hw); (try dsimp only at hw); go_split_ands; go_simp <;> first | with_reducible exact (rfl : Value.bool false = _) | with_reducible exact (rfl : Value.bool true = _) | ((try go_bits) <;> exact rfl))); simp only [Act.put, Nat.reduceAdd, List.setIfInBounds_toArray, List.set_cons_zero, List.set_cons_succ, List.nil_append, List.cons_append])))
  refine Reg2.wS_nil ?_; intro w' hw; rw [HCl.out] at hw; (try simp only [List.nil_append, List.cons_append] at hw); (try dsimp only at hw); clear HCl
  obtain ⟨⟨-, -, -, hB3⟩, hO3⟩ := hw
  have HB3 := Lib.hid hB3
  have HO3 := Lib.hid hO3
  clear hB3 hO3
  go_wp2_with (first
    | (at_builtin; refine wpList_append_rows rfl _ _ 26 rfl w.heap.size 33 ip (.agg #[.int .i64 0, .int .u64 0, .int .u64 0, .int .i64 0, .bool false, .bool false]) 6 40 Try.underlying26 CI0.out CZ0.out CZ1.out CZ2.out rfl (by decide) _ _ _ rfl HO3.out pkcC L2 (some d2) tc2 (by rw [HLD.out]; rfl) (HDR.out.below HB3.out) (fun h => by cases h) (by have h1 := HLT.out; have h2 := HLD.out; unfold maxLen; omega) (by have h1 := HLT.out; have h2 := HLD.out; omega) (HB3.out.size) ?_; intro v4 w4 hown4 hg4; (have hb4 : Below w.heap.size w w4 := HB3.out.grown hg4 HB3.out.size (fun k hk => (HO3.out.lt k hk).1)); obtain ⟨a4, c4, rfl⟩ := row_form hown4; have HO4 := Lib.hid hown4; have HB4 := Lib.hid hb4; clear hg4 hown4 hb4))
  have hlen : L1.length + 1 + L2.length = n := by have h1 := HLT.out; have h2 := HLD.out; omega
  have ho := HO4.out
  rw [← HGL.out, hlen] at ho
  refine bodyPost_ret (v := .slice a4 (L1.length + 1 + L2.length) c4) (by simp [results, Try.results9, go_sem, *]) rfl ?_
  exact ⟨_, rfl, by rw [hlen]; exact ho, HB4.out⟩
end Go.Proofs.Ytnpidbodeebnkaa
