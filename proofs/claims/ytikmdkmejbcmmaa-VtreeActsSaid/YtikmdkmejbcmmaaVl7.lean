/- vtree: Turned, low, same. -/
import Derived.Test.YtikmdkmejbcmmaaVl5
import Derived.Test.YtikmdkmejbcmmaaEl7
namespace Go.Proofs.Ytikmdkmejbcmmaa
set_option linter.unusedVariables false
set_option linter.unusedSimpArgs false
set_option maxRecDepth 100000
open Go.RowKit Fg Reg
attribute [local irreducible] Reg.wE NT

def sw (r : Rw) : Rw := ⟨r.id, r.b, r.a⟩
theorem sw_snoc {A : List Rw} {y : Rw} : (A ++ [y]).map sw = A.map sw ++ [sw y] := by simp
theorem nthR_sw {L : List Rw} {j : Nat} (hj : j < L.length) : nthR (L.map sw) j = sw (nthR L j) := by
  unfold nthR
  rw [List.getD_eq_getElem?_getD, List.getD_eq_getElem?_getD, List.getElem?_map, List.getElem?_eq_getElem hj]; rfl
set_option maxHeartbeats 4000000 in
theorem qtu_c (L : List Rw) (n : Nat) (hln : L.length = n) (hn : n ≤ 1000) (ad : Option Addr) (cap : Nat) (w : World) (hR : RwV Rw.cells 3 w ad L) :
    Calls Try.prog 75 #[.slice ad n cap] w fun e w' => (∃ ao c, e = .returned (.slice ao n c) ∧ RwV Rw.cells 3 w' ao (L.map sw)) ∧ Below w.heap.size w w' := by
  obtain ⟨ii, ci0, cz0, cz1, cz2⟩ := rw_parts; have CI0 := Lib.hid ci0; have CZ0 := Lib.hid cz0; have CZ1 := Lib.hid cz1; have CZ2 := Lib.hid cz2; clear ci0 cz0 cz1 cz2
  have HR := Lib.hid hR
  have HLN := Lib.hid hln
  clear hR hln
  obtain ⟨base, hbase⟩ : ∃ base, w.heap.size = base := ⟨_, rfl⟩
  have HBA := Lib.hid hbase
  clear hbase
  go_enter Try.func75, Try.ntmps75
  go_wp2
  go_loopg [8, 3] n (fun k9 s10 s5 wr => ∃ (i : Nat) (M : List Rw) (ao : Option Addr) (c : Nat), s10 = .int .i64 i ∧ s5 = .slice ao M.length c ∧ i ≤ n ∧ n - i ≤ k9 ∧ M = (L.take i).map sw ∧ M.length ≤ i ∧ wr.ownsRow base 70 3 (.slice ao (M).length c) (M).length ((M).flatMap Rw.cells) ∧ base ≤ wr.heap.size ∧ Below w.heap.size w wr)
  case atStart => exact ⟨0, [], none, 0, rfl, rfl, by omega, by omega, rfl, by simp, World.ownsRow_nil _ _ _ _, by rw [← HBA.out]; simp, by (repeat' (first | assumption | exact Below.refl _ _ | refine Below.setCell ?_ (by first | (simp; done) | omega | (simp; omega)) _ | refine Below.alloc ?_ (by first | (simp; done) | omega | (simp; omega)) _ | refine Below.drew ?_ | refine below_drewN ?_ _))⟩
  case round =>
    obtain ⟨i, M, ao, c, rfl, rfl, hi, hk, hM, hMl, hO, hbs, hB⟩ := hrel
    have HO := Lib.hid hO
    have HM := Lib.hid hM
    clear hO hM
    by_cases hin : i < n
    · obtain ⟨rb, ro, had, hpb, p0, p1, p2⟩ := rw_cells HR.out (i := i) (by rw [HLN.out]; exact hin); subst had; have p0 := (hB.cell hpb).trans p0; have p1 := (hB.cell hpb).trans p1; have p2 := (hB.cell hpb).trans p2; have hpr := Nat.lt_of_lt_of_le hpb hB.size; have W4 : IntKind.i64.wrap ((i : Int) + 1) = ((i + 1 : Nat) : Int) := (by rw [IntKind.wrap_i64]; omega); have htn := rw_next (l := L) (i := i) (by rw [HLN.out]; exact hin)
      obtain ⟨Y, hY⟩ : ∃ Y, nthR L i = Y := ⟨_, rfl⟩; rw [hY] at p0 p1 p2 htn; have HTN := Lib.hid htn; have HYY := Lib.hid hY; clear htn hY
      have HB := Lib.hid hB
      clear hB
      go_wp2_with ((at_builtin; refine wpList_append_own _ rfl _ _ 61 rfl (base) 70 ii (.agg #[.int .i64 0, .int .u64 0, .int .u64 0]) 3 24 Try.underlying61 CI0.out CZ0.out CZ1.out CZ2.out rfl (by decide) (.slice ao (M).length c) _ _ rfl (World.ownsRow.alloc (World.ownsRow.alloc HO.out _) _) ⟨_, 0, none⟩ 1 1 (Rw.cells ((⟨Y.id, Y.b, Y.a⟩ : Rw))) rfl rfl ?c1 ?c2 ?c3 ?c4 ?c5 ?_; (case c1 => (intro j u hu; unfold Rw.cells at hu; rcases j with _ | _ | _ | j <;> simp at hu <;> (try subst hu) <;> simp [Addr.add, go_sem, *])); (case c2 => (exact rwC.one _)); (case c3 => (unfold maxLen; omega)); (case c4 => omega); (case c5 => (simp; omega)); intro v2 z2 hown2 hg2 _); (have hb2 : Below base wr z2 := (Below.alloc (Below.alloc (Below.refl _ _) (by omega) _) (by simp; omega) _).grown hg2 (by simp; omega) (fun q hq => (HO.out.lt q hq).1)); obtain ⟨M2, a2, c2, hm2, hl2, rfl, hown9⟩ := rw_snoc hown2; (have HM2 := Lib.hid hm2); (have HO2 := Lib.hid hown9); (have HB2 := Lib.hid hb2); clear hown2 hown9 hg2 hb2 hm2)
      go_roundg (n - (i + 1))
      case rel =>
        refine ⟨i + 1, M2, a2, c2, by first | rfl | go_num | (congr 1; omega), rfl, by omega, Nat.le_refl _, by rw [HTN.out, sw_snoc, HM2.out, HM.out]; rfl, by omega, HO2.out, Nat.le_trans hbs HB2.out.size, HB.out.trans (HB2.out.mono (by have := HBA.out; omega))⟩
      case measure => omega
    · have hie : i = n := by omega
      subst hie
      have HT : Hid (L.take i = L) := Lib.hid (List.take_of_length_le (by rw [HLN.out]; exact Nat.le_refl _))
      have HB := Lib.hid hB
      clear hin hB
      go_wp2
      go_ret
      have hML : M = L.map sw := by rw [HM.out, HT.out]
      subst hML
      obtain ⟨a9, c9, e9, hr9, -, -, hlo9⟩ := RwV.of_own rwC HO.out
      injection e9 with e1 e2 e3
      subst e1 e3
      have hll : (L.map sw).length = i := by rw [List.length_map, HLN.out]
      rw [hll]
      exact ⟨⟨ao, c, rfl, hr9⟩, HB.out⟩
def LW (L : List Rw) (v : Int) : Prop := (L = [] ∧ v = 0) ∨ ∃ r ∈ L, v = r.a ∧ ∀ q ∈ L, v ≤ q.a
theorem LW.uniq {L : List Rw} {v u : Int} (h : LW L v) (g : LW L u) : v = u := by
  rcases h with ⟨h1, h2⟩ | ⟨r, h1, h2, h3⟩ <;> rcases g with ⟨g1, g2⟩ | ⟨s, g1, g2, g3⟩
  · omega
  · subst h1; simp at g1
  · subst g1; simp at h1
  · have := h3 s g1; have := g3 r h1; omega
theorem LW.snoc {A : List Rw} {v : Int} {y : Rw} (h : LW A v) : LW (A ++ [y]) (if A = [] ∨ y.a < v then y.a else v) := by
  right
  rcases h with ⟨h1, h2⟩ | ⟨r, h1, h2, h3⟩
  · rw [if_pos (.inl h1)]
    subst h1
    exact ⟨y, by simp, rfl, fun q hq => by simp at hq; subst hq; exact Int.le_refl _⟩
  · have hne : A ≠ [] := fun e => by subst e; simp at h1
    by_cases hy : y.a < v
    · rw [if_pos (.inr hy)]
      refine ⟨y, by simp, rfl, fun q hq => ?_⟩
      rcases List.mem_append.1 hq with g | g
      · have := h3 q g; omega
      · rw [List.mem_singleton.1 g]; exact Int.le_refl _
    · rw [if_neg (fun e => e.elim hne hy)]
      refine ⟨r, by simp [h1], h2, fun q hq => ?_⟩
      rcases List.mem_append.1 hq with g | g
      · exact h3 q g
      · rw [List.mem_singleton.1 g]; omega
theorem low_lw {t : Tr} {L : List Rw} (h : TM t L) (hs : SS (tl t)) : LW L (if isN t = true then 0 else (lst t).ka) ∧ (!isN t) = decide (0 < L.length) := by
  cases hn : isN t with
  | true =>
    have := isN_nil hn
    subst this
    have hL : L = [] := by
      cases L with
      | nil => rfl
      | cons r L => have := (h r.it).2 ⟨r, by simp, rfl⟩; simp [tl] at this
    subst hL
    exact ⟨.inl ⟨rfl, rfl⟩, by simp⟩
  | false =>
    simp only [Bool.false_eq_true, if_false]
    obtain ⟨L', hL⟩ := lst_hd t hn
    obtain ⟨r, hr, e⟩ := (h (lst t)).1 (by rw [hL]; simp)
    refine ⟨.inr ⟨r, hr, by rw [e]; rfl, fun q hq => ?_⟩, ?_⟩
    · have h2 := (h q.it).2 ⟨q, hq, rfl⟩
      rw [hL] at h2 hs
      rcases List.mem_cons.1 h2 with e | e
      · rw [← e]; exact Int.le_refl _
      · unfold SS at hs
        rw [List.pairwise_cons] at hs
        have h5 : (lst t).ka < q.a ∨ ((lst t).ka = q.a ∧ (lst t).ki < q.id) := kl_iff.1 (hs.1 _ e)
        omega
    · have : 0 < L.length := List.length_pos_of_mem hr
      simp [this]
theorem ftt_nx {t : Tr} {L : List Rw} (h : TM t L) (hs : SS (tl t)) (hok : okR L) : NX (L.map sw) (ftt t) := by
  obtain ⟨h1, h2⟩ := ftt_le h hs fun r hr => (hok r hr).2
  refine ⟨h1, fun r hr => ?_, ?_⟩
  · obtain ⟨q, hq, rfl⟩ := List.mem_map.1 hr
    exact h2 q hq
  · rcases ftt_has h hs with e | ⟨r, hr, e⟩
    · exact .inl e
    · exact .inr ⟨sw r, List.mem_map.2 ⟨r, hr, rfl⟩, e⟩
set_option maxHeartbeats 4000000 in
theorem qlo_c (L : List Rw) (n : Nat) (hln : L.length = n) (hn : n ≤ 1000) (ad : Option Addr) (cap : Nat) (V : Int) (hV : LW L V) (w : World) (hR : RwV Rw.cells 3 w ad L) :
    Calls Try.prog 76 #[.slice ad n cap] w fun ee w' => ee = .returned (.int .u64 V) ∧ Below w.heap.size w w' := by
  have HR := Lib.hid hR
  have HLN := Lib.hid hln
  have HV := Lib.hid hV
  clear hR hln hV
  go_enter Try.func76, Try.ntmps76
  go_wp2
  go_loopg [8, 3] n (fun k9 s9 s3 wr => ∃ (i : Nat) (v : Int), s9 = .int .i64 i ∧ s3 = .int .u64 v ∧ i ≤ n ∧ n - i ≤ k9 ∧ LW (L.take i) v ∧ Below w.heap.size w wr)
  case atStart => exact ⟨0, 0, rfl, rfl, by omega, by omega, .inl ⟨rfl, rfl⟩, by (repeat' (first | assumption | exact Below.refl _ _ | refine Below.setCell ?_ (by first | (simp; done) | omega | (simp; omega)) _ | refine Below.alloc ?_ (by first | (simp; done) | omega | (simp; omega)) _ | refine Below.drew ?_ | refine below_drewN ?_ _))⟩
  case round =>
    obtain ⟨i, v, rfl, rfl, hi, hk, hA, hB⟩ := hrel
    have HA := Lib.hid hA
    clear hA
    by_cases hin : i < n
    · obtain ⟨rb, ro, had, hpb, p0, p1, p2⟩ := rw_cells HR.out (i := i) (by rw [HLN.out]; exact hin); subst had; have p0 := (hB.cell hpb).trans p0; have p1 := (hB.cell hpb).trans p1; have p2 := (hB.cell hpb).trans p2; have hpr := Nat.lt_of_lt_of_le hpb hB.size; have W4 : IntKind.i64.wrap ((i : Int) + 1) = ((i + 1 : Nat) : Int) := (by rw [IntKind.wrap_i64]; omega); have htn := rw_next (l := L) (i := i) (by rw [HLN.out]; exact hin)
      obtain ⟨Y, hY⟩ : ∃ Y, nthR L i = Y := ⟨_, rfl⟩; rw [hY] at p0 p1 p2 htn; have HTN := Lib.hid htn; have HYY := Lib.hid hY; clear htn hY
      have HB := Lib.hid hB
      clear hB
      have hsn := HA.out.snoc (y := Y)
      have hte : L.take i = [] ↔ i = 0 := by
        rw [← List.length_eq_zero_iff, List.length_take, HLN.out]
        omega
      simp only [hte] at hsn
      clear hte
      by_cases hi0 : i = 0
      · have E0 : ((i : Int) == 0) = true := by simp; omega
        have E1 : decide ((i : Int) = 0) = true := decide_eq_true (by omega)
        rw [if_pos (.inl hi0)] at hsn
        have HSN := Lib.hid hsn
        clear hsn hi0
        go_wp2
        go_roundg (n - (i + 1))
        case rel =>
          refine ⟨i + 1, Y.a, by first | rfl | go_num | (congr 1; omega), rfl, by omega, Nat.le_refl _, by rw [HTN.out]; exact HSN.out, ?_⟩
          have hB := HB.out
          have hs := hB.size
          (repeat' (first | assumption | exact Below.refl _ _ | refine Below.setCell ?_ (by first | (simp; done) | omega | (simp; omega)) _ | refine Below.alloc ?_ (by first | (simp; done) | omega | (simp; omega)) _ | refine Below.drew ?_ | refine below_drewN ?_ _))
        case measure => omega
      · have E0 : ((i : Int) == 0) = false := by simp; omega
        have E1 : decide ((i : Int) = 0) = false := decide_eq_false (by omega)
        by_cases hlt : Y.a < v
        · have D : decide (Y.a < v) = true := decide_eq_true hlt
          rw [if_pos (.inr hlt)] at hsn
          have HSN := Lib.hid hsn
          clear hlt hsn
          go_wp2
          go_roundg (n - (i + 1))
          case rel =>
            refine ⟨i + 1, Y.a, by first | rfl | go_num | (congr 1; omega), rfl, by omega, Nat.le_refl _, by rw [HTN.out]; exact HSN.out, ?_⟩
            have hB := HB.out
            have hs := hB.size
            (repeat' (first | assumption | exact Below.refl _ _ | refine Below.setCell ?_ (by first | (simp; done) | omega | (simp; omega)) _ | refine Below.alloc ?_ (by first | (simp; done) | omega | (simp; omega)) _ | refine Below.drew ?_ | refine below_drewN ?_ _))
          case measure => omega
        · have D : decide (Y.a < v) = false := decide_eq_false hlt
          rw [if_neg (fun e => e.elim hi0 hlt)] at hsn
          have HSN := Lib.hid hsn
          clear hlt hsn
          go_wp2
          go_roundg (n - (i + 1))
          case rel =>
            refine ⟨i + 1, v, by first | rfl | go_num | (congr 1; omega), rfl, by omega, Nat.le_refl _, by rw [HTN.out]; exact HSN.out, ?_⟩
            have hB := HB.out
            have hs := hB.size
            (repeat' (first | assumption | exact Below.refl _ _ | refine Below.setCell ?_ (by first | (simp; done) | omega | (simp; omega)) _ | refine Below.alloc ?_ (by first | (simp; done) | omega | (simp; omega)) _ | refine Below.drew ?_ | refine below_drewN ?_ _))
          case measure => omega
    · have hie : i = n := by omega
      subst hie
      have hv : v = V := LW.uniq (L := L) (by have := HA.out; rwa [List.take_of_length_le (by rw [HLN.out]; exact Nat.le_refl _)] at this) HV.out
      subst hv
      clear hin
      go_wp2
      go_ret
      exact ⟨rfl, by with_reducible assumption⟩
set_option maxHeartbeats 16000000 in
theorem v_same_c (tb mb a : Nat) (t : Tr) (L : List Rw) (n : Nat) (hln : L.length = n) (hn : n ≤ 80) (ad : Option Addr) (cap : Nat) (now : Int) (w : World) (hT : TBL w tb mb a t L) (hok : okR L) (hR : RwV Rw.cells 3 w ad L) :
    Calls Try.prog 47 #[.pointer (some ⟨tb, 0, none⟩), .slice ad n cap, .int .u64 now] w fun ee w' => ee = .returned (.bool true) ∧ Below w.heap.size w w' := by
  obtain ⟨ii, ci0, cz0, cz1, cz2⟩ := int_parts
  have CI0 := Lib.hid ci0
  have CZ0 := Lib.hid cz0
  have CZ1 := Lib.hid cz1
  have CZ2 := Lib.hid cz2
  clear ci0 cz0 cz1 cz2
  have kr : ∀ j, j < L.length → ∀ z, TBL z tb mb a t L → Calls Try.prog 49 #[.pointer (some ⟨tb, 0, none⟩), .int .i64 (nthR L j).id] z fun e w' => e = .returned (.tuple #[.int .u64 (nthR L j).a, .int .u64 (nthR L j).b, .int .i64 0]) ∧ Below z.heap.size z w' := fun j hj z h => v_getr tb mb a t L (nthR L j) z h (hok _ (nthR_mem hj)).1 (nthR_mem hj)
  have ki := fun z (h : TBL z tb mb a t L) => v_ids_c tb mb a t L z h (by omega)
  have kl := fun z (h : TBL z tb mb a t L) => v_len_c tb mb a t L z h
  have kn := fun z (h : TBL z tb mb a t L) => v_fitN tb mb a t L z h
  have kq := fun z ad cap (h : RwV Rw.cells 3 z ad (L.map sw)) => qne_c (L.map sw) n (by rw [List.length_map]; exact hln) (by omega) ad cap (ftt t) (ftt_nx hT.tm hT.tr.ss hok) z h
  obtain ⟨hlw, hth⟩ := low_lw hT.tm hT.tr.ss
  have kw := fun z (h : TBL z tb mb a t L) => v_low_c tb mb a t L z h
  have kv := fun z ad cap (h : RwV Rw.cells 3 z ad L) => qlo_c L n hln (by omega) ad cap _ hlw z h
  have kt := fun z ad cap (h : RwV Rw.cells 3 z ad L) => qtu_c L n hln (by omega) ad cap z h
  generalize (if isN t = true then 0 else (lst t).ka) = VL at *
  generalize (!isN t) = BT at *
  have DT1 : decide (0 < n) = BT := by rw [hth, hln]
  have DT2 : decide ((0 : Int) < (n : Int)) = BT := by rw [← DT1, decide_eq_decide]; omega
  have KW := Lib.hid kw
  have KV := Lib.hid kv
  have KT := Lib.hid kt
  have kin := fun a1 a2 c1 c2 z (h1 : RwV (fun x : Int => [Value.int .i64 x]) 1 z a1 (L.map Rw.id)) (h2 : RwV (fun x : Int => [Value.int .i64 x]) 1 z a2 (L.map Rw.id)) => ints_eq (L.map Rw.id) a1 a2 c1 c2 (by rw [List.length_map]; omega) z h1 h2
  simp only [List.length_map] at kin
  obtain ⟨pid, pok, J, hJ, hpk, hmk, hpj⟩ : ∃ (pid : Int) (pok : Bool) (J : Int), PK (L.map sw) now n J ∧ (∀ z, TBL z tb mb a t L → Calls Try.prog 48 #[.pointer (some ⟨tb, 0, none⟩), .int .u64 now] z fun e w' => e = .returned (.tuple #[.int .i64 pid, .bool pok]) ∧ Below z.heap.size z w') ∧ (∀ z ad cap, RwV Rw.cells 3 z ad (L.map sw) → Calls Try.prog 70 #[.slice ad L.length cap, .int .i64 J] z fun e w' => e = .returned (.int .i64 pid) ∧ Below z.heap.size z w') ∧ decide (0 ≤ J) = pok := by
    cases ho : fstL (mnn now 9223372036854775807) (tl t) with
    | none =>
      have h0 := v_pickN hT.tm ho
      refine ⟨0, false, -1, .inl ⟨rfl, fun k hk g => by rw [nthR_sw (by omega)] at g; exact h0 _ (nthR_mem (L := L) (j := k) (by omega)) g⟩, fun z h => ?_, fun z ad cap h => ?_, rfl⟩
      · have h1 := v_pick_c tb mb a t L now z h
        rw [ho] at h1
        exact h1
      · have h1 := qma_n (L.map sw) ad cap z
        rw [List.length_map] at h1
        exact h1
    | some m =>
      obtain ⟨r0, hr0, rfl, hq1, hq2, hq3⟩ := v_pickS hT.tm hT.tr.ss ho
      obtain ⟨j, hj, hjr⟩ := nthR_of hr0
      refine ⟨r0.id, true, j, .inr ⟨j, by omega, rfl, by rw [nthR_sw hj, hjr]; exact ⟨hq1, hq2⟩, fun k hk g => ?_⟩, fun z h => ?_, fun z ad cap h => ?_, decide_eq_true (by omega)⟩
      · rw [nthR_sw (by omega)] at g
        have h3 := hq3 _ (nthR_mem (L := L) (j := k) (by omega)) g.1 g.2
        rw [nthR_sw hj, nthR_sw (by omega), hjr]
        refine ⟨h3.1, fun e => ?_⟩
        have h4 := h3.2 e
        rcases Nat.lt_or_ge k j with hkj | hkj
        · have := rs_get hT.rs hkj hj
          rw [hjr] at this
          omega
        · exact hkj
      · have h1 := v_pick_c tb mb a t L now z h
        rw [ho] at h1
        exact h1
      · have h1 := qma_y (L.map sw) j (by simpa using hj) ad cap z h
        rw [List.length_map, nthR_sw hj, hjr] at h1
        exact h1
  have hmem := fun j (hj : j < L.length) => nthR_mem hj
  have htk := fun j (hj : j < L.length) => rw_next (l := L) (i := j) hj
  simp only [hln] at kr ki kl kin hmk hmem htk
  have KQ := Lib.hid (fun z ad cap (h : RwV Rw.cells 3 z ad (L.map sw)) => qpi_c (L.map sw) n (by rw [List.length_map]; exact hln) (by omega) ad cap now J hJ z h)
  have KR := Lib.hid kr
  have KI := Lib.hid ki
  have KL := Lib.hid kl
  have KIN := Lib.hid kin
  have KP := Lib.hid hpk
  have KM := Lib.hid hmk
  have HT := Lib.hid hT
  have HR := Lib.hid hR
  have HLN := Lib.hid hln
  have HTK := Lib.hid htk
  have HPJ := hpj
  generalize ftt t = N at *
  have KN := Lib.hid kn
  have KQN := Lib.hid kq
  obtain ⟨base, hbase⟩ : ∃ base, w.heap.size = base := ⟨_, rfl⟩
  have HBA := Lib.hid hbase
  clear kr ki kl kin hpk hmk hT hR hln hmem htk hok hJ hbase kn kq kw kv kt hlw hth
  go_enter Try.func47, Try.ntmps47
  go_wp2
  go_loopg [21, 7] n (fun k9 s9 s7 wy => ∃ (j : Nat) (ao : Option Addr) (c : Nat), s9 = .int .i64 j ∧ s7 = .slice ao j c ∧ j ≤ n ∧ n - j ≤ k9 ∧ wy.ownsRow base 3 1 (.slice ao j c) j (((L.take j).map Rw.id).flatMap (fun x : Int => [Value.int .i64 x])) ∧ base ≤ wy.heap.size ∧ Below w.heap.size w wy)
  case atStart => exact ⟨0, none, 0, rfl, rfl, by omega, by omega, World.ownsRow_nil _ _ _ _, by rw [← HBA.out]; simp, by (repeat' (first | assumption | exact Below.refl _ _ | refine Below.setCell ?_ (by first | (simp; done) | omega | (simp; omega)) _ | refine Below.alloc ?_ (by first | (simp; done) | omega | (simp; omega)) _ | refine Below.drew ?_ | refine below_drewN ?_ _))⟩
  case round =>
    rename World => wy
    obtain ⟨j, ao, c, rfl, rfl, hj, hkk, hO, hbs, hB⟩ := hrel
    have HO := Lib.hid hO
    have HB := Lib.hid hB
    have hszB := hB.size
    by_cases hjn : j < n
    · obtain ⟨rb, ro, had, hpb, p0, p1, p2⟩ := rw_cells HR.out (i := j) (by rw [HLN.out]; exact hjn)
      subst had
      have p0 := (hB.cell hpb).trans p0
      have p1 := (hB.cell hpb).trans p1
      have p2 := (hB.cell hpb).trans p2
      have hpr := Nat.lt_of_lt_of_le hpb hB.size
      have W4 : IntKind.i64.wrap ((j : Int) + 1) = ((j + 1 : Nat) : Int) := by rw [IntKind.wrap_i64]; omega
      have KRJ := Lib.hid (KR.out j hjn)
      have htj := HTK.out j hjn
      obtain ⟨Y, hY⟩ : ∃ Y, nthR L j = Y := ⟨_, rfl⟩
      rw [hY] at p0 p1 p2 htj
      simp only [hY] at KRJ
      have HTJ := Lib.hid htj
      clear htj hY hB hO
      go_wp2_with (first
        | go_guarded
        | (go_at_call 49; (with_reducible refine (KRJ.out _ (HT.out.below (by have hB := HB.out; (repeat' (first | assumption | exact Below.refl _ _ | refine Below.setCell ?_ (by first | (simp; done) | omega | (simp; omega)) _ | refine Below.alloc ?_ (by first | (simp; done) | omega | (simp; omega)) _ | refine Below.drew ?_ | refine below_drewN ?_ _))))).mono ?_); rintro _ w5 ⟨rfl, hbel⟩; (have HB5 : Hid (Below base wy w5) := Lib.hid ((Below.alloc (Below.refl _ _) (by omega) _).trans (hbel.mono (by simp; omega)))); (have HO5 := Lib.hid (row_bel (World.ownsRow.alloc HO.out _) hbel)); (have hs5 := HB5.out.size); obtain ⟨hcc, hff⟩ := bcell hbel; have hsz := hbel.size; (try simp at hsz); have hF : (w5.cell? ⟨wy.heap.size, 0, none⟩ = some (.int .i64 (Y).id) ∧ w5.cell? ⟨wy.heap.size, 1, none⟩ = some (.int .u64 (Y).a) ∧ w5.cell? ⟨wy.heap.size, 2, none⟩ = some (.int .u64 (Y).b) ∧ wy.heap.size < w5.heap.size) := (by ((repeat' apply And.intro) <;> first | (simp [go_sem, *]; done) | omega | (repeat' (first | with_reducible exact Below.refl _ _ | with_reducible assumption | ((with_reducible refine Below.drew ?_)) | ((with_reducible refine below_drewN ?_ _)) | ((with_reducible refine Below.alloc ?_ ?_ _); rotate_left; focus (first | omega | (simp; done) | (simp; omega))) | ((with_reducible refine Below.setCell ?_ ?_ _); rotate_left; focus (first | omega | (simp; done) | (simp; omega))) | ((with_reducible refine Below.trans ?_ (Below.mono (by with_reducible assumption) ?_)); rotate_left; focus (first | omega | (simp; done) | (simp; omega))))))); go_split_ands; clear hcc hff hbel)
        | (at_builtin; refine wpList_append_own _ rfl _ _ 77 rfl base 3 ii (.int .i64 0) 1 8 Try.underlying77 CI0.out CZ0.out CZ1.out CZ2.out rfl (by decide) (.slice ao j c) _ _ rfl (World.ownsRow.alloc HO5.out _) ⟨_, 0, none⟩ 1 1 [Value.int .i64 Y.id] rfl rfl ?c1 ?c2 ?c3 ?c4 ?c5 ?_; (case c1 => (intro q u hu; rcases q with _ | q <;> simp at hu <;> (try subst hu) <;> simp [Addr.add, go_sem, *])); (case c2 => (intro v hv; simp at hv; subst hv; rfl)); (case c3 => (unfold maxLen; omega)); (case c4 => omega); (case c5 => (simp; omega)); intro v2 z2 hown2 hg2 _; (have hb2 : Below base w5 z2 := (Below.alloc (Below.refl _ _) (by omega) _).grown hg2 (by simp; omega) (fun q hq => (HO5.out.lt q hq).1)); obtain ⟨a2, c2, rfl⟩ := row_form hown2; (have HO2 := Lib.hid hown2); (have HB2 := Lib.hid (HB5.out.trans hb2)); clear hown2 hg2 hb2))
      go_roundg (n - (j + 1))
      case rel =>
        refine ⟨j + 1, a2, c2, by first | rfl | go_num | (congr 1; omega), rfl, by omega, Nat.le_refl _, ?_, Nat.le_trans hbs HB2.out.size, HB.out.trans (HB2.out.mono (by have := HBA.out; omega))⟩
        have h := HO2.out
        rw [HTJ.out, List.map_append, List.flatMap_append]
        exact h
      case measure => omega
    · have hje : j = n := by omega
      subst hje
      have hrow : RwV (fun x : Int => [Value.int .i64 x]) 1 wy ao (L.map Rw.id) := by
        have h := HO.out
        rw [List.take_of_length_le (by rw [HLN.out]; exact Nat.le_refl _)] at h
        have h2 : wy.ownsRow base 3 1 (.slice ao j c) (L.map Rw.id).length ((L.map Rw.id).flatMap (fun x : Int => [Value.int .i64 x])) := by rw [List.length_map, HLN.out]; exact h
        obtain ⟨a9, c9, e9, hr9, -, -, -⟩ := RwV.of_own icl_of h2
        injection e9 with e1 e2 e3
        subst e1
        exact hr9
      have HRO := Lib.hid hrow
      clear hrow hO hjn hB
      have HSS : Hid (TBL wy tb mb a t L ∧ RwV Rw.cells 3 wy ad L ∧ RwV (fun x : Int => [Value.int .i64 x]) 1 wy ao (L.map Rw.id) ∧ Below w.heap.size w wy) := Lib.hid ⟨HT.out.below HB.out, HR.out.below HB.out, HRO.out, HB.out⟩
      go_wp2_with (first
        | go_guarded
        | (go_at_call 48; (with_reducible refine (KP.out _ HSS.out.1).mono ?_); rintro _ wk ⟨rfl, hbel⟩; have HSS := Lib.hid (stp4 HSS.out hbel); clear hbel)
        | (go_at_call 52; (with_reducible refine (KW.out _ HSS.out.1).mono ?_); rintro _ wk ⟨rfl, hbel⟩; have HSS := Lib.hid (stp4 HSS.out hbel); clear hbel)
        | (go_at_call 75; (with_reducible refine (KT.out _ _ _ HSS.out.2.1).mono ?_); rintro _ wk ⟨⟨am, cm, rfl, hrm⟩, hbel⟩; have HSS := Lib.hid (stp4 HSS.out hbel); have HMR := Lib.hid hrm; clear hbel hrm)
        | (go_at_call 76; (with_reducible refine (KV.out _ _ _ HSS.out.2.1).mono ?_); rintro _ wk ⟨rfl, hbel⟩; have HSS := Lib.hid (stp4 HSS.out hbel); have HMR := Lib.hid (HMR.out.below hbel); clear hbel)
        | (go_at_call 50; (with_reducible refine (KN.out _ HSS.out.1).mono ?_); rintro _ wk ⟨rfl, hbel⟩; have HSS := Lib.hid (stp4 HSS.out hbel); have HMR := Lib.hid (HMR.out.below hbel); clear hbel)
        | (go_at_call 71; (with_reducible refine (KQN.out _ _ _ HMR.out).mono ?_); rintro _ wk ⟨rfl, hbel⟩; have HSS := Lib.hid (stp4 HSS.out hbel); have HMR := Lib.hid (HMR.out.below hbel); clear hbel)
        | (go_at_call 69; (with_reducible refine (KQ.out _ _ _ HMR.out).mono ?_); rintro _ wk ⟨rfl, hbel⟩; have HSS := Lib.hid (stp4 HSS.out hbel); have HMR := Lib.hid (HMR.out.below hbel); clear hbel)
        | (go_at_call 70; (with_reducible refine (KM.out _ _ _ HMR.out).mono ?_); rintro _ wk ⟨rfl, hbel⟩; have HSS := Lib.hid (stp4 HSS.out hbel); have HMR := Lib.hid (HMR.out.below hbel); clear hbel)
        | (go_at_call 53; (with_reducible refine (KL.out _ HSS.out.1).mono ?_); rintro _ wk ⟨rfl, hbel⟩; have HSS := Lib.hid (stp4 HSS.out hbel); have HMR := Lib.hid (HMR.out.below hbel); clear hbel)
        | (go_at_call 51; (with_reducible refine (KI.out _ HSS.out.1).mono ?_); rintro _ wk ⟨⟨ai, ci, rfl, hri⟩, hbel⟩; have HSS := Lib.hid (stp4 HSS.out hbel); have HRI := Lib.hid hri; clear hbel hri)
        | (go_at_call 72; (with_reducible refine (KIN.out _ _ _ _ _ HRI.out HSS.out.2.2.1).mono ?_); rintro _ wk ⟨rfl, hbel⟩; have HSS := Lib.hid (stp4 HSS.out hbel); clear hbel))
      go_ret
      exact ⟨rfl, HSS.out.2.2.2⟩
end Go.Proofs.Ytikmdkmejbcmmaa
