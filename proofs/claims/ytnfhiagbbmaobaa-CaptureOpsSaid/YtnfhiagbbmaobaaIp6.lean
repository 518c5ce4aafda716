/- ipv4.Encode's closure: so many bytes of a number, appended. -/
import Derived.Test.YtnfhiagbbmaobaaIp3
import Derived.Test.YtnfhiagbbmaobaaRegion3
import Derived.Test.YtnfhiagbbmaobaaRows0
namespace Go.Proofs.Ytnfhiagbbmaobaa
set_option linter.unusedVariables false
set_option linter.unusedSimpArgs false
set_option maxRecDepth 100000
open Go.RowKit Fg Reg
attribute [local irreducible] Reg.wE Reg2.wT Reg.wN World.ownsRow

theorem u8_info : (Try.prog.info? 5).map (fun i => (i.zero, i.size, i.bytes)) = some (some (.int .u8 0), 1, 1) := by kernel_rfl
theorem u8_parts : ∃ i, Try.prog.info? 5 = some i ∧ i.zero = some (.int .u8 0) ∧ i.size = 1 ∧ i.bytes = 1 := by
  obtain ⟨i, hi, h⟩ := Option.map_eq_some_iff.1 u8_info
  simp only [Prod.mk.injEq] at h
  exact ⟨i, hi, h.1, h.2.1, h.2.2⟩
/-- A local slice of bytes in its box. -/
structure OU (z : World) (q B : Nat) (v : Value) (l : List Int) : Prop where
  cell : z.cell? ⟨q, 0, none⟩ = some v
  fz : z.frozen? ⟨q, 0, none⟩ = false
  lt : q < B
  own : z.ownsRow B 5 1 v l.length (l.map (Value.int .u8))
  big : B ≤ z.heap.size
theorem ints_one (l : List Int) (k : IntKind) : ∀ u ∈ l.map (Value.int k), u.oneCell' = true := fun u hu => by
  obtain ⟨x, _, rfl⟩ := List.mem_map.1 hu
  rfl
theorem put_core (v0 : Int) (n : Nat) (news : List Int) (hl : news.length = n) (hn : 1 ≤ n)
    (K : ∀ z, Calls Try.prog 50 #[.int .u64 v0, .int .i64 n] z (fun ee w' => ∃ b, ee = .returned (.slice (some ⟨b, 0, none⟩) n n) ∧ z.heap.size ≤ b ∧ BR w' b n (fun j => news.getD j 0) ∧ Below z.heap.size z w'))
    {z : World} {q B : Nat} {v : Value} {l : List Int} (h : OU z q B v l) (hlen : l.length + n ≤ 1000000) :
    Calls Try.prog 49 #[.int .u64 v0, .int .i64 n, .pointer (some ⟨q, 0, none⟩)] z (fun e z' => e = .returned (.tuple #[]) ∧ ∃ v', OU z' q B v' (l ++ news) ∧ Only (fun k => k = q ∨ B ≤ k) z z') := by
  obtain ⟨ie, HI0, HZ0, HZ1, HZ2⟩ := u8_parts
  obtain ⟨hc, hf, hlt, hown, hbig⟩ := h
  obtain ⟨ao, cap, hv⟩ := row_form hown
  have K' := Lib.hid K
  have HL := Lib.hid hl
  have hqz : q < z.heap.size := by omega
  clear K hl
  have hownd : z.drew.ownsRow B 5 1 v l.length (l.map (Value.int .u8)) := row_bel hown (Below.drew (Below.refl _ _))
  subst hv
  go_enter Try.func49, Try.ntmps49
  go_wp2_with fail
  obtain ⟨Cl, hCl⟩ : ∃ Cl : List Value → World → Prop, Cl = (fun ps wz => (Only (fun k => k = q ∨ B ≤ k) z wz ∧ B ≤ wz.heap.size ∧ q < wz.heap.size ∧ wz.frozen? ⟨q, 0, none⟩ = false) ∧ (match ps with
    | [] => wz.cell? ⟨q, 0, none⟩ = some (.slice ao l.length cap) ∧ wz.ownsRow B 5 1 (.slice ao l.length cap) l.length (l.map (Value.int .u8))
    | [p] => wz.cell? ⟨q, 0, none⟩ = some (.slice ao l.length cap) ∧ wz.ownsRow B 5 1 (.slice ao l.length cap) l.length (l.map (Value.int .u8)) ∧ ∃ b, p = Value.slice (some ⟨b, 0, none⟩) n n ∧ BR wz b n (fun j => news.getD j 0)
    | [_, v'] => wz.cell? ⟨q, 0, none⟩ = some (.slice ao l.length cap) ∧ wz.ownsRow B 5 1 v' (l.length + n) (l.map (Value.int .u8) ++ news.map (Value.int .u8))
    | (_ :: v' :: _ :: _) => wz.cell? ⟨q, 0, none⟩ = some v' ∧ wz.ownsRow B 5 1 v' (l.length + n) (l.map (Value.int .u8) ++ news.map (Value.int .u8)))) := ⟨_, rfl⟩
  have HCl := Lib.hid hCl
  clear hCl
  refine Reg.wp_region_effN [3, 4, 5] Cl (by kernel_rfl) (by kernel_rfl) ?_ ?_
  · rw [HCl.out]; (try simp only [List.nil_append, List.cons_append]); (try dsimp only)
    exact ⟨⟨(Only.refl _ _).drew, by simpa using hbig, by simpa using hqz, by simpa [go_sem] using hf⟩, by simpa [go_sem] using hc, hownd⟩
  refine Reg.wN_at 1 (by rfl) (by rfl) (by kernel_rfl) ?_
  refine ⟨.slice ao l.length cap, fun vs wq hvl hw => ?_, ?_⟩
  · have hcell : wq.cell? ⟨q, 0, none⟩ = some (.slice ao l.length cap) := by
      rw [HCl.out] at hw
      rcases vs with _ | ⟨p, _ | ⟨p2, vs⟩⟩
      · exact hw.2.1
      · exact hw.2.1
      · simp at hvl
    clear hw
    go_simp
  simp only [Act.put, Nat.reduceAdd, List.setIfInBounds_toArray, List.set_cons_zero, List.set_cons_succ, List.nil_append, List.cons_append]
  refine Reg.wN_open (by rfl) (by rfl) ?_
  apply Exists.intro
  refine ⟨fun vs wq hw => ?_, ?_⟩
  · clear hw
    go_simp
    exact rfl
  simp only [Act.put, Nat.reduceAdd, List.setIfInBounds_toArray, List.set_cons_zero, List.set_cons_succ, List.nil_append, List.cons_append]
  refine Reg.wN_open (by rfl) (by rfl) ?_
  apply Exists.intro
  refine ⟨fun vs wq hw => ?_, ?_⟩
  · clear hw
    go_simp
    exact rfl
  simp only [Act.put, Nat.reduceAdd, List.setIfInBounds_toArray, List.set_cons_zero, List.set_cons_succ, List.nil_append, List.cons_append]
  refine Reg.wN_eff (by rfl) (by rfl) (fun wq hw => ?_) (fun u hu => ?_)
  · rw [HCl.out] at hw; (try simp only [List.nil_append, List.cons_append] at hw); (try dsimp only at hw)
    obtain ⟨⟨ho, hb, hq, hfz⟩, hcl, hw2⟩ := hw
    clear hownd hown hc hf
    have HW2 := Lib.hid hw2
    clear hw2
    go_simp
    (with_reducible refine (K'.out _).mono ?_)
    rintro e w1 ⟨b, rfl, hbb, hR, hbel⟩
    refine ⟨_, rfl, ?_⟩
    rw [HCl.out]; (try simp only [List.nil_append, List.cons_append]); (try dsimp only)
    exact ⟨⟨ho.trans (Only.of_below hbel), Nat.le_trans hb hbel.size, Nat.lt_of_lt_of_le hq hbel.size, (hbel.frozen (p := ⟨q, 0, none⟩) hq).trans hfz⟩, (hbel.cell (p := ⟨q, 0, none⟩) hq).trans hcl, row_bel HW2.out hbel, b, rfl, hR⟩
  obtain ⟨wz, hz⟩ := hu
  rw [HCl.out] at hz
  (try simp only [List.nil_append, List.cons_append] at hz)
  (try dsimp only at hz)
  obtain ⟨-, -, -, b, rfl, -⟩ := hz
  simp only [Act.put, Nat.reduceAdd, List.setIfInBounds_toArray, List.set_cons_zero, List.set_cons_succ, List.nil_append, List.cons_append]
  refine Reg.wN_eff (by rfl) (by rfl) (fun wq hw => ?_) (fun u hu => ?_)
  · rw [HCl.out] at hw; (try simp only [List.nil_append, List.cons_append] at hw); (try dsimp only at hw)
    obtain ⟨⟨ho, hb, hq, hfz⟩, hcl, ho2, b', hbe, hR⟩ := hw
    obtain rfl : b = b' := by simpa using hbe
    obtain ⟨v', w', hr, hown', hgrow, _⟩ := run_append_own (P := Try.prog) wq B 43 43 5 ie (.int .u8 0) 1 1 Try.underlying43 HI0 HZ0 HZ1 HZ2 rfl (by decide) (.slice ao l.length cap) l.length (l.map (Value.int .u8)) ho2 ⟨b, 0, none⟩ n n (news.map (Value.int .u8)) (by rw [List.length_map, HL.out, Nat.mul_one]) (fun j u hu => by
      have hj : j < n := by rw [← HL.out]; simpa using (List.getElem?_eq_some_iff.1 hu).1
      have hx := hR.2 j hj
      rw [Addr.add_lit, Nat.zero_add, hx]
      simp only [List.getElem?_map] at hu
      rw [← hu]
      have hj2 : j < news.length := by rw [HL.out]; exact hj
      simp [List.getD, List.getElem?_eq_getElem hj2]) (ints_one news .u8) (by unfold maxLen; omega) (by omega) hb
    have hob := fun k (hk : (Value.slice ao l.length cap).ownBlock = some k) => (row_blk ho2 k hk).1
    have hne : some q ≠ (Value.slice ao l.length cap).ownBlock := fun e => by have := hob _ e.symm; omega
    have O3 : Only (fun k => k = q ∨ B ≤ k) wq w' := (only_grown' hgrow).mono (fun k hk => .inr (hob k hk))
    have hsg := hgrow.size
    refine Reg.eff_append (.tmp 5) (.tmp 8) 43 rfl rfl rfl hr ?_
    rw [HCl.out]; (try simp only [List.nil_append, List.cons_append]); (try dsimp only)
    exact ⟨⟨ho.trans O3, by omega, by omega, ((only_grown' hgrow).frozen hq (fun e => hne e.symm)).trans hfz⟩, hgrow.cell hcl hne, hown'⟩
  obtain ⟨wz, hz⟩ := hu
  rw [HCl.out] at hz
  (try simp only [List.nil_append, List.cons_append] at hz)
  (try dsimp only at hz)
  obtain ⟨-, -, hz2⟩ := hz
  obtain ⟨ao', cap', rfl⟩ := row_form hz2
  clear hz2
  simp only [Act.put, Nat.reduceAdd, List.setIfInBounds_toArray, List.set_cons_zero, List.set_cons_succ, List.nil_append, List.cons_append]
  refine Reg.wN_eff (by rfl) (by rfl) (fun wq hw => ?_) (fun u hu => ?_)
  · rw [HCl.out] at hw; (try simp only [List.nil_append, List.cons_append] at hw); (try dsimp only at hw)
    obtain ⟨⟨ho, hb, hq, hfz⟩, hcl, ho2⟩ := hw
    have HW2 := Lib.hid ho2
    clear ho2 hownd hown hc hf
    go_simp
    rw [HCl.out]; (try simp only [List.nil_append, List.cons_append]); (try dsimp only)
    have O4 : Only (fun k => k = q) wq (wq.setCell ⟨q, 0, none⟩ (.slice ao' (l.length + n) cap')) := (Only.refl _ _).setOne _ _ _
    have O5 : Only (fun k => k = q ∨ B ≤ k) wq (wq.setCell ⟨q, 0, none⟩ (.slice ao' (l.length + n) cap')) := O4.mono (fun k hk => .inl hk)
    refine ⟨⟨ho.trans O5, by simpa [World.setCell] using hb, by simpa [World.setCell] using hq, by simp [go_sem, hfz]⟩, by simp [go_sem, hcl], row_only HW2.out O4 (fun k hk hk2 => by omega)⟩
  clear hu
  simp only [Act.put, Nat.reduceAdd, List.setIfInBounds_toArray, List.set_cons_zero, List.set_cons_succ, List.nil_append, List.cons_append]
  refine Reg.wN_nil ?_
  intro w' hw
  rw [HCl.out] at hw; (try simp only [List.nil_append, List.cons_append] at hw); (try dsimp only at hw)
  clear HCl hownd
  obtain ⟨⟨ho, hb, hq, hfz⟩, hcl, ho2⟩ := hw
  have HW2 := Lib.hid ho2
  have HC2 := Lib.hid hcl
  clear ho2 hcl hown hc hf
  go_wp2
  refine bodyPost_end (v := .tuple #[]) (by simp [results, Try.results49]) rfl ⟨rfl, .slice ao' (l.length + n) cap', ⟨HC2.out, hfz, hlt, ?_, hb⟩, ho⟩
  have := HW2.out
  rw [← List.map_append] at this
  rw [List.length_append, HL.out]
  exact this
theorem put1_c (v0 : Int) (hv : 0 ≤ v0 ∧ v0 ≤ 18446744073709551615) {z : World} {q B : Nat} {v : Value} {l : List Int} (h : OU z q B v l) (hlen : l.length ≤ 100) :
    Calls Try.prog 49 #[.int .u64 v0, .int .i64 1, .pointer (some ⟨q, 0, none⟩)] z (fun e z' => e = .returned (.tuple #[]) ∧ ∃ v', OU z' q B v' (l ++ by1 v0) ∧ Only (fun k => k = q ∨ B ≤ k) z z') :=
  put_core v0 1 (by1 v0) rfl (by omega) (fun z => cut1_c v0 hv z) h (by omega)
theorem put2_c (v0 : Int) (hv : 0 ≤ v0 ∧ v0 ≤ 18446744073709551615) {z : World} {q B : Nat} {v : Value} {l : List Int} (h : OU z q B v l) (hlen : l.length ≤ 100) :
    Calls Try.prog 49 #[.int .u64 v0, .int .i64 2, .pointer (some ⟨q, 0, none⟩)] z (fun e z' => e = .returned (.tuple #[]) ∧ ∃ v', OU z' q B v' (l ++ by2 v0) ∧ Only (fun k => k = q ∨ B ≤ k) z z') :=
  put_core v0 2 (by2 v0) rfl (by omega) (fun z => cut2_c v0 hv z) h (by omega)
theorem put4_c (v0 : Int) (hv : 0 ≤ v0 ∧ v0 ≤ 18446744073709551615) {z : World} {q B : Nat} {v : Value} {l : List Int} (h : OU z q B v l) (hlen : l.length ≤ 100) :
    Calls Try.prog 49 #[.int .u64 v0, .int .i64 4, .pointer (some ⟨q, 0, none⟩)] z (fun e z' => e = .returned (.tuple #[]) ∧ ∃ v', OU z' q B v' (l ++ by4 v0) ∧ Only (fun k => k = q ∨ B ≤ k) z z') :=
  put_core v0 4 (by4 v0) rfl (by omega) (fun z => cut4_c v0 hv z) h (by omega)
end Go.Proofs.Ytnfhiagbbmaobaa
