/- A tree held against a list. -/
import Derived.Test.YtlenmhbhakeonaaHa6
import Derived.Test.YtlenmhbhakeonaaMr0
namespace Go.Proofs.Ytlenmhbhakeonaa
set_option linter.unusedVariables false
set_option linter.unusedSimpArgs false
set_option maxRecDepth 100000
open Go.RowKit Fg Reg Go.Maps
attribute [local irreducible] Reg.wE VR

theorem eqCvS (n : Nat) (a b d : Int) (w : World) : (Op.equalIn (n + 2) 29 (.agg #[.int .u64 a, .int .u64 b, .int .u64 d]) (.agg #[.int .u64 a, .int .u64 b, .int .u64 d])).run Try.prog w = .ok true w := by
  have hz1 : ∀ w, (sizeOf 27).run Try.prog w = .ok 1 w := fun w => by kernel_rfl
  have ha1 : ∀ w, (isAgg 27).run Try.prog w = .ok false w := fun w => by kernel_rfl
  have u1 := Try.underlying27
  have hS : Try.prog.underlying 29 = some (.struct (Try.prog.fieldsOf 29)) := by kernel_rfl
  have hp : Try.prog.stoodInHeld 29 = false := by kernel_rfl
  rw [show n + 2 = (n + 1) + 1 from rfl, run_equalIn_agg w (n + 1) 29 _ _ hS hp]
  simp only [Program.fieldsOf, Try.underlying29]
  go_simp
theorem eqClS (c : Cls) (w : World) : (Op.equalIn 10000 31 (.agg #[.int .i64 (c).id, .int .i64 (c).par, .bool (c).leaf, .int .u64 (c).ra, .int .u64 (c).rb, .int .u64 (c).rc, .int .u64 (c).la, .int .u64 (c).lb, .int .u64 (c).lc, .int .u64 (c).ua, .int .u64 (c).ub, .int .u64 (c).uc, .int .i64 (c).pk, .int .i64 (c).bt]) (.agg #[.int .i64 (c).id, .int .i64 (c).par, .bool (c).leaf, .int .u64 (c).ra, .int .u64 (c).rb, .int .u64 (c).rc, .int .u64 (c).la, .int .u64 (c).lb, .int .u64 (c).lc, .int .u64 (c).ua, .int .u64 (c).ub, .int .u64 (c).uc, .int .i64 (c).pk, .int .i64 (c).bt])).run Try.prog w = .ok true w := by
  have hz1 : ∀ w, (sizeOf 3).run Try.prog w = .ok 1 w := fun w => by kernel_rfl
  have ha1 : ∀ w, (isAgg 3).run Try.prog w = .ok false w := fun w => by kernel_rfl
  have hz2 : ∀ w, (sizeOf 4).run Try.prog w = .ok 1 w := fun w => by kernel_rfl
  have ha2 : ∀ w, (isAgg 4).run Try.prog w = .ok false w := fun w => by kernel_rfl
  have hz3 : ∀ w, (sizeOf 29).run Try.prog w = .ok 3 w := fun w => by kernel_rfl
  have ha3 : ∀ w, (isAgg 29).run Try.prog w = .ok true w := fun w => by kernel_rfl
  have u1 := Try.underlying3
  have u2 := Try.underlying4
  have e1 := eqCvS 9997 c.ra c.rb c.rc
  have e2 := eqCvS 9997 c.la c.lb c.lc
  have e3 := eqCvS 9997 c.ua c.ub c.uc
  have hS : Try.prog.underlying 31 = some (.struct (Try.prog.fieldsOf 31)) := by kernel_rfl
  have hp : Try.prog.stoodInHeld 31 = false := by kernel_rfl
  rw [show (10000 : Nat) = 9999 + 1 from rfl, run_equalIn_agg w 9999 31 _ _ hS hp]
  simp only [Program.fieldsOf, Try.underlying31]
  go_simp
theorem wpList_append_qr {P : Program} {ops : Array Oper} {rest : List Oper} {o : Oper} {a : Act} {w : World} {Q : Exit → Act → World → Prop} (hgd : o.guard = none) (s x : Operand) (t : TypeId)
    (ho : o.op = .call { callee := .builtin .append, args := #[s, x], argTypes := #[t, t] })
    (B : Nat) (e : TypeId) (i : TypeInfo) (z : Value) (size bytes : Nat) (ht : P.underlying t = some (.slice e)) (hi : P.info? e = some i) (hz : i.zero = some z)
    (hsize : i.size = size) (hby : i.bytes = bytes) (hzs : z.cells.size = size) (hsz : 0 < size)
    (v : Value) (n : Nat) (xs : List Value) (bk : Option Nat) (hs : a.eval s = v) (hq : QR w B size v n xs bk)
    (ad : Addr) (c : Nat) (news : List Value) (hx : a.eval x = .slice (some ad) 1 c) (hl : news.length = size) (hnews : ∀ j u, news[j]? = some u → w.cell? (ad.add j) = some u) (h1 : ∀ u ∈ news, u.oneCell' = true)
    (h63 : n + 1 ≤ maxLen) (hbytes : (n + 1) * bytes ≤ 140737488355328) (hB : B ≤ w.heap.size)
    (h : ∀ v' w' b', QR w' B size v' (n + 1) (xs ++ news) (some b') → Only (fun k => bk = some k) w w' → (bk = some b' ∨ w.heap.size ≤ b') → wpList P ops Q rest (a.put o.dst v') w') : wpList P ops Q (o :: rest) a w := by
  refine wpList_plain hgd fun _ hK => ?_
  obtain ⟨v', w', b', hr, h2, h3, h4⟩ := run_append_qr (P := P) w B size t o.type e i z bytes ht hi hz hsize hby hzs hsz v n xs bk hq ad c news hl hnews h1 h63 hbytes hB
  unfold Oper.wp execOp
  simp only [ho, resolve, invoke, builtin, Sem.run_bind, Sem.run_pure, Result.andThen_ok, List.map_toArray, List.map_cons, List.map_nil, hs, hx, hr]
  exact hK _ _ (h v' w' b' h2 h3 h4)
theorem qr_ints {z : World} {B n c : Nat} {ao : Option Addr} {bk : Option Nat} {C : List Int} (h : QR z B 1 (.slice ao n c) n (C.map (Value.int .i64)) bk) : IntsV z ao C := fun k hk => by
  obtain ⟨h0, ⟨hv, hn, _⟩ | ⟨b, o, cap, _, hv, _, _, _, hb, _, hx⟩⟩ := h
  · simp at h0; omega
  · simp only [Value.slice.injEq] at hv
    obtain ⟨rfl, -, -⟩ := hv
    exact ⟨b, o, rfl, hb, hx k _ (by simp [hk])⟩
theorem a7_bel {w7 z z' : World} {p8 p9 : Nat} {c : Cls} (h : VR z p8 31 #[.int .i64 (c).id, .int .i64 (c).par, .bool (c).leaf, .int .u64 (c).ra, .int .u64 (c).rb, .int .u64 (c).rc, .int .u64 (c).la, .int .u64 (c).lb, .int .u64 (c).lc, .int .u64 (c).ua, .int .u64 (c).ub, .int .u64 (c).uc, .int .i64 (c).pk, .int .i64 (c).bt] ∧ VR z p9 31 #[.int .i64 (c).id, .int .i64 (c).par, .bool (c).leaf, .int .u64 (c).ra, .int .u64 (c).rb, .int .u64 (c).rc, .int .u64 (c).la, .int .u64 (c).lb, .int .u64 (c).lc, .int .u64 (c).ua, .int .u64 (c).ub, .int .u64 (c).uc, .int .i64 (c).pk, .int .i64 (c).bt] ∧ z.cell? ⟨p8, 0, none⟩ = some (.int .i64 c.id) ∧ p8 < z.heap.size ∧ Below w7.heap.size w7 z) (hb : Below z.heap.size z z') : VR z' p8 31 #[.int .i64 (c).id, .int .i64 (c).par, .bool (c).leaf, .int .u64 (c).ra, .int .u64 (c).rb, .int .u64 (c).rc, .int .u64 (c).la, .int .u64 (c).lb, .int .u64 (c).lc, .int .u64 (c).ua, .int .u64 (c).ub, .int .u64 (c).uc, .int .i64 (c).pk, .int .i64 (c).bt] ∧ VR z' p9 31 #[.int .i64 (c).id, .int .i64 (c).par, .bool (c).leaf, .int .u64 (c).ra, .int .u64 (c).rb, .int .u64 (c).rc, .int .u64 (c).la, .int .u64 (c).lb, .int .u64 (c).lc, .int .u64 (c).ua, .int .u64 (c).ub, .int .u64 (c).uc, .int .i64 (c).pk, .int .i64 (c).bt] ∧ z'.cell? ⟨p8, 0, none⟩ = some (.int .i64 c.id) ∧ p8 < z'.heap.size ∧ Below w7.heap.size w7 z' :=
  ⟨h.1.bel hb, h.2.1.bel hb, (h.1.bel hb).cell 0 rfl, (h.1.bel hb).lt, h.2.2.2.2.trans (hb.mono h.2.2.2.2.size)⟩
theorem crt_len (c : Cls) : (crt c).length = 3 := rfl
theorem cv3_one (a b d : Int) : (#[.int .u64 a, .int .u64 b, .int .u64 d] : Array Value).all (·.oneCell') = true := by kernel_rfl
theorem take_map {L : List Int} {k : Nat} (h : k < L.length) (f : Int → Value) : (L.take (k + 1)).map f = (L.take k).map f ++ [f L[k]] := by
  rw [take_snoc'' L k h, List.map_append]; rfl
set_option maxHeartbeats 32000000 in
theorem same18_c {tb mb : Nat} {f : Int → Option Cls} {L : List Int} (I : TI f L) (n : Nat) (hn : L.length = n) (ao : Option Addr) (cap : Nat) (w : World) (h : HT w tb mb f) (hR : RwV crow 14 w ao (rowsX f L)) :
    Calls Try.prog 16 #[.pointer (some ⟨tb, 0, none⟩), .slice ao n cap] w fun ee w' => ee = .returned (.bool true) ∧ Below w.heap.size w w' := by
  obtain ⟨ii, ci0, cz0, cz1, cz2⟩ := int_partsH
  have CI0 := Lib.hid ci0
  have CZ0 := Lib.hid cz0
  have CZ1 := Lib.hid cz1
  have CZ2 := Lib.hid cz2
  have hl : (rowsX f L).length = n := by rw [rowsX_len]; exact hn
  have hn64 : n ≤ 64 := by rw [← hn]; exact I.len
  have HI := Lib.hid I
  have HN := Lib.hid hn
  have HL := Lib.hid hl
  have HTS := Lib.hid (fun (z : World) (hz : Below w.heap.size w z) => h.below hz)
  have HRS := Lib.hid (fun (z : World) (hz : Below w.heap.size w z) => hR.below hz)
  have ALL := Lib.hid cl_alloc
  have INF := Lib.hid cl_info
  have ONE := Lib.hid cla_one
  have VALL := Lib.hid cv_alloc
  have VINF := Lib.hid cv_info
  have EQC := fun (c : Cls) (z : World) => eqClS c z
  have EQV := fun (a b d : Int) (z : World) => (eqCvS 9998 a b d z : (Op.equalIn 10000 29 (.agg #[.int .u64 a, .int .u64 b, .int .u64 d]) (.agg #[.int .u64 a, .int .u64 b, .int .u64 d])).run Try.prog z = .ok true z)
  have EQCH := Lib.hid EQC
  have EQVH := Lib.hid EQV
  clear ci0 cz0 cz1 cz2 I hn hl h hR EQC EQV
  go_enter Try.func16, Try.ntmps16
  go_wp2_with fail
  go_loopg [5, 6, 20] n (fun k9 s5 s6 s20 wr => ∃ (k m : Nat) (o1 : Option Addr) (c1 : Nat) (o2 : Option Addr) (c2 : Nat) (bk1 bk2 : Option Nat), s5 = .slice o1 k c1 ∧ s6 = .slice o2 m c2 ∧ s20 = .int .i64 k ∧ k ≤ n ∧ ((L.take k).filter (sel f Cls.leaf)).length = m ∧ QR wr w.heap.size 1 (.slice o1 k c1) k ((L.take k).map (Value.int .i64)) bk1 ∧ QR wr w.heap.size 1 (.slice o2 m c2) m (((L.take k).filter (sel f Cls.leaf)).map (Value.int .i64)) bk2 ∧ (∀ b, bk1 = some b → bk2 = some b → False) ∧ Below w.heap.size w wr ∧ n - k ≤ k9)
  case atStart => exact ⟨0, 0, none, 0, none, 0, none, none, rfl, rfl, rfl, Nat.zero_le _, rfl, QR.nil _ _ _, QR.nil _ _ _, (fun b h => by cases h), Below.refl _ _, by omega⟩
  case round =>
    obtain ⟨k, m, o1, c1, o2, c2, bk1, bk2, rfl, rfl, rfl, hk, hm, hq1, hq2, hne, hB, hk9⟩ := hrel
    have HM := Lib.hid hm
    have HQ1 := Lib.hid hq1
    have HQ2 := Lib.hid hq2
    have HNE := Lib.hid hne
    have HB := Lib.hid hB
    have hmk : m ≤ 64 := by rw [← hm]; exact Nat.le_trans (List.length_filter_le _ _) (by simp; omega)
    by_cases hlt : k < n
    · have hlC : k < L.length := by rw [HN.out]; exact hlt
      have hlX : k < (rowsX f L).length := by rw [HL.out]; exact hlt
      obtain ⟨b, o, rfl, hb, hra⟩ := (HRS.out _ hB) k hlX
      have hat := rx_at HI.out hlC
      have hy := filt_yes (sel f Cls.leaf) hlC
      have hno := filt_no (sel f Cls.leaf) hlC
      have htm := take_map hlC (Value.int .i64)
      obtain ⟨c, hce⟩ : ∃ c, (rowsX f L)[k] = c := ⟨_, rfl⟩
      rw [hce] at hra hat
      rw [← hat.2] at hy hno htm
      have hfc : f c.id = some c := by rw [hat.2]; exact hat.1
      have hsl : sel f Cls.leaf c.id = c.leaf := by unfold sel; rw [hfc]
      rw [hsl] at hy hno
      have HTM := Lib.hid htm
      have hci := HI.out.cls c.id c hfc
      have hid := hci.2.1.id
      have HR1 := Lib.hid (show wr.rangeAt b (o + k * 14) (#[.int .i64 (c).id, .int .i64 (c).par, .bool (c).leaf, .int .u64 (c).ra, .int .u64 (c).rb, .int .u64 (c).rc, .int .u64 (c).la, .int .u64 (c).lb, .int .u64 (c).lc, .int .u64 (c).ua, .int .u64 (c).ub, .int .u64 (c).uc, .int .i64 (c).pk, .int .i64 (c).bt] : Array Value).toList from hra)
      have KG := Lib.hid (fun (z : World) (hz : Below w.heap.size w z) => (by have := hget_c (HTS.out z hz) hid; rw [hfc] at this; exact this : Calls Try.prog 21 #[.pointer (some ⟨tb, 0, none⟩), .int .i64 c.id] z fun ee w' => ee = .returned (.tuple #[.agg #[.int .i64 (c).id, .int .i64 (c).par, .bool (c).leaf, .int .u64 (c).ra, .int .u64 (c).rb, .int .u64 (c).rc, .int .u64 (c).la, .int .u64 (c).lb, .int .u64 (c).lc, .int .u64 (c).ua, .int .u64 (c).ub, .int .u64 (c).uc, .int .i64 (c).pk, .int .i64 (c).bt], .int .i64 0]) ∧ Below z.heap.size z w'))
      obtain ⟨U, hU⟩ : ∃ U, upl f 16 c.id = U := ⟨_, rfl⟩
      obtain ⟨u, hu⟩ : ∃ u, U.length = u := ⟨_, rfl⟩
      have hu16 : u ≤ 16 := by rw [← hu, ← hU]; exact upl_len f 16 c.id
      have KRU : Hid (∀ z, Below w.heap.size w z → Calls Try.prog 64 #[.slice (some ⟨b, o, none⟩) n cap, .int .i64 c.id] z fun e z' => ∃ uo uc, e = .returned (.slice uo u uc) ∧ IntsV z' uo U ∧ Below z.heap.size z z') := Lib.hid (fun z hz => by
        refine (rup_c HI.out n HN.out c.id hid (some ⟨b, o, none⟩) cap z (HRS.out z hz)).mono ?_
        rintro e z' ⟨v, rfl, hr, hb⟩
        rw [hU, hu] at hr
        obtain ⟨uo, uc, rfl⟩ := row_form hr
        exact ⟨uo, uc, rfl, (own_ints hr).2, hb⟩)
      have KU : Hid (∀ z, Below w.heap.size w z → Calls Try.prog 22 #[.pointer (some ⟨tb, 0, none⟩), .int .i64 c.id] z fun e z' => ∃ uo uc, e = .returned (.slice uo u uc) ∧ IntsV z' uo U ∧ Below z.heap.size z z') := Lib.hid (fun z hz => by
        refine (hup_c (HTS.out z hz) (fun x cc hcc => ⟨(HI.out.cls x cc hcc).1, (HI.out.cls x cc hcc).2.1.par⟩) 16 (by decide) c.id hid (HI.out.dep _)).mono ?_
        rintro e z' ⟨v, rfl, hr, hb⟩
        rw [hU, hu] at hr
        obtain ⟨uo, uc, rfl⟩ := row_form hr
        exact ⟨uo, uc, rfl, (own_ints hr).2, hb⟩)
      have KD : Hid (∀ z, Below w.heap.size w z → Calls Try.prog 26 #[.pointer (some ⟨tb, 0, none⟩), .int .i64 c.id] z fun ee w' => ee = .returned (.int .i64 (u : Int)) ∧ Below z.heap.size z w') := Lib.hid (fun z hz => by
        have := hdep_c (HTS.out z hz) (fun x cc hcc => ⟨(HI.out.cls x cc hcc).1, (HI.out.cls x cc hcc).2.1.par⟩) 16 (by decide) c.id hid (HI.out.dep _)
        rw [hU, hu] at this
        exact this)
      obtain ⟨C, hC⟩ : ∃ C, L.filter (sel f (fun y => y.par == c.id)) = C := ⟨_, rfl⟩
      obtain ⟨q, hq⟩ : ∃ q, C.length = q := ⟨_, rfl⟩
      have hq64 : q ≤ 64 := by rw [← hq, ← hC]; exact Nat.le_trans (List.length_filter_le _ _) HI.out.len
      have KC : Hid (∀ z, Below w.heap.size w z → Calls Try.prog 25 #[.pointer (some ⟨tb, 0, none⟩), .int .i64 c.id] z fun e z' => ∃ co cc, e = .returned (.slice co q cc) ∧ IntsV z' co C ∧ Below z.heap.size z z') := Lib.hid (fun z hz => by
        refine (children_c (HTS.out z hz) c.id L HI.out.srt HI.out.mem (Nat.le_trans HI.out.len (by decide)) HI.out.iok).mono ?_
        rintro e z' ⟨v, rfl, hr, hb⟩
        rw [hC, hq] at hr
        obtain ⟨co, cc, rfl⟩ := row_form hr
        exact ⟨co, cc, rfl, (own_ints hr).2, hb⟩)
      have KRC : Hid (∀ z, Below w.heap.size w z → Calls Try.prog 65 #[.slice (some ⟨b, o, none⟩) n cap, .int .i64 c.id] z fun e z' => ∃ co cc, e = .returned (.slice co q cc) ∧ IntsV z' co C ∧ Below z.heap.size z z') := Lib.hid (fun z hz => by
        refine (rchi_c (rowsX f L) n HL.out (by omega) c.id (some ⟨b, o, none⟩) cap z (HRS.out z hz)).mono ?_
        rintro e z' ⟨v, rfl, hr, hb⟩
        have hcl : (((rowsX f L).filter (fun y => y.par == c.id)).map Cls.id) = C := by rw [← hC]; exact chl_eq c.id (fun x hx => by obtain ⟨d, h1, h2, _⟩ := HI.out.rows x hx; exact ⟨d, h1, h2⟩)
        have h1 : ((rowsX f L).filter (fun y => y.par == c.id)).map (fun y => Value.int .i64 y.id) = C.map (Value.int .i64) := by rw [← hcl, List.map_map]; rfl
        have h2 : ((rowsX f L).filter (fun y => y.par == c.id)).length = q := by rw [← hq, ← hcl, List.length_map]
        rw [h1, h2] at hr
        obtain ⟨co, cc, rfl⟩ := row_form hr
        exact ⟨co, cc, rfl, (own_ints hr).2, hb⟩)
      have KIU := Lib.hid (fun a1 a2 d1 d2 z h1 h2 => pints_m U u hu a1 a2 d1 d2 (by omega) z h1 h2)
      have KIC := Lib.hid (fun a1 a2 d1 d2 z h1 h2 => pints_m C q hq a1 a2 d1 d2 (by omega) z h1 h2)
      have HLF1 := Lib.hid hy
      have HLF0 := Lib.hid hno
      have EQC := EQCH.out c
      have hsz := hB.size
      clear hm hq1 hq2 hne hB hra hat hce hfc hsl htm hci hid hU hu hC hq hy hno hlC hlX hb
      go_wp2_with (first
        | go_guarded
        | (go_at_call 64; (have mk := HB6); (with_reducible refine (KRU.out _ HB6.out).mono ?_); rintro _ w7 ⟨uo, uc, rfl, hui, hbel⟩; have HB7 : Hid (Below w.heap.size w w7) := Lib.hid (HB6.out.trans (hbel.mono HB6.out.size)); have HUI := Lib.hid hui; have hv8 := HV8.out.bel hbel; have hv9 := HV9.out.bel hbel; have HV8b := Lib.hid hv8; have HV9b := Lib.hid hv9; have hw7r : wr.heap.size ≤ w7.heap.size := (by have := hbel.size; omega); have HBW := Lib.hid (HBV.out.trans (hbel.mono (by omega))); clear hbel hui hv8 hv9)
        | (refine wpList_var_new rfl rfl 31 #[.int .i64 0, .int .i64 0, .bool false, .int .u64 0, .int .u64 0, .int .u64 0, .int .u64 0, .int .u64 0, .int .u64 0, .int .u64 0, .int .u64 0, .int .u64 0, .int .i64 0, .int .i64 0] ALL.out rfl _ _ rfl #[.int .i64 (c).id, .int .i64 (c).par, .bool (c).leaf, .int .u64 (c).ra, .int .u64 (c).rb, .int .u64 (c).rc, .int .u64 (c).la, .int .u64 (c).lb, .int .u64 (c).lc, .int .u64 (c).ua, .int .u64 (c).ub, .int .u64 (c).uc, .int .i64 (c).pk, .int .i64 (c).bt] rfl rfl INF.out rfl (ONE.out _) ?_; (have mk := HB5); intro w6 hs6 hb6 hv6; have HV9 := Lib.hid hv6; have HV8 := Lib.hid (HV5.out.bel hb6); have g8 := HV8.out.cell 0 rfl; have gl8 := HV8.out.lt; have HB6 : Hid (Below w.heap.size w w6) := Lib.hid (HB5.out.trans (hb6.mono HB5.out.size)); have HBV := Lib.hid (HBU.out.trans (hb6.mono (by omega))); clear hb6 hv6)
        | (go_at_call 21; (with_reducible refine (KG.out _ HB4.out).mono ?_); rintro _ w5 ⟨rfl, hbel⟩; have HB5 : Hid (Below w.heap.size w w5) := Lib.hid (HB4.out.trans (hbel.mono HB4.out.size)); have HV5 := Lib.hid (HV4.out.bel hbel); have hs5 := hbel.size; have HBU := Lib.hid (HBT.out.trans (hbel.mono (by omega))); clear hbel)
        | (refine wpList_var_new rfl rfl 31 #[.int .i64 0, .int .i64 0, .bool false, .int .u64 0, .int .u64 0, .int .u64 0, .int .u64 0, .int .u64 0, .int .u64 0, .int .u64 0, .int .u64 0, .int .u64 0, .int .i64 0, .int .i64 0] ALL.out rfl _ _ rfl #[.int .i64 (c).id, .int .i64 (c).par, .bool (c).leaf, .int .u64 (c).ra, .int .u64 (c).rb, .int .u64 (c).rc, .int .u64 (c).la, .int .u64 (c).lb, .int .u64 (c).lc, .int .u64 (c).ua, .int .u64 (c).ub, .int .u64 (c).uc, .int .i64 (c).pk, .int .i64 (c).bt] rfl rfl INF.out rfl (ONE.out _) ?_; intro w4 hs4 hb4 hv4; have HV4 := Lib.hid hv4; have f4 := hv4.cell 0 rfl; have l4 := hv4.lt; have HB4 : Hid (Below w.heap.size w w4) := Lib.hid (HB.out.trans (hb4.mono HB.out.size)); have HBT : Hid (Below wr.heap.size wr w4) := Lib.hid hb4; clear hb4 hv4)
        | (refine wpList_part_get rfl 31 _ rfl b (o + k * 14) #[.int .i64 (c).id, .int .i64 (c).par, .bool (c).leaf, .int .u64 (c).ra, .int .u64 (c).rb, .int .u64 (c).rc, .int .u64 (c).la, .int .u64 (c).lb, .int .u64 (c).lc, .int .u64 (c).ua, .int .u64 (c).ub, .int .u64 (c).uc, .int .i64 (c).pk, .int .i64 (c).bt] _ HR1.out rfl Try.underlying31 rfl INF.out ?_))
      obtain ⟨p9, hp9⟩ : ∃ p, w5.heap.size = p := ⟨_, rfl⟩
      obtain ⟨p8, hp8⟩ : ∃ p, wr.heap.size = p := ⟨_, rfl⟩
      have HP8 := Lib.hid hp8
      rw [hp9] at HV9b
      rw [hp8] at HV8b
      (try rw [hp9])
      (try rw [hp8])
      (try simp only [hp8, hp9])
      have hbq : Below w7.heap.size w7 w7.drew := Below.drew (Below.refl _ _)
      clear hp9 hp8
      have HUI7 : Hid (∀ z, Below w7.heap.size w7 z → IntsV z uo U) := Lib.hid (fun z hz => HUI.out.below hz)
      have HBZ : Hid (∀ z, Below w7.heap.size w7 z → Below w.heap.size w z) := Lib.hid (fun z hz => HB7.out.trans (hz.mono HB7.out.size))
      obtain ⟨Cl, hCl⟩ : ∃ Cl : List (Nat × Value) → World → Prop, Cl = ((fun ps wz => (VR wz p8 31 #[.int .i64 (c).id, .int .i64 (c).par, .bool (c).leaf, .int .u64 (c).ra, .int .u64 (c).rb, .int .u64 (c).rc, .int .u64 (c).la, .int .u64 (c).lb, .int .u64 (c).lc, .int .u64 (c).ua, .int .u64 (c).ub, .int .u64 (c).uc, .int .i64 (c).pk, .int .i64 (c).bt] ∧ VR wz p9 31 #[.int .i64 (c).id, .int .i64 (c).par, .bool (c).leaf, .int .u64 (c).ra, .int .u64 (c).rb, .int .u64 (c).rc, .int .u64 (c).la, .int .u64 (c).lb, .int .u64 (c).lc, .int .u64 (c).ua, .int .u64 (c).ub, .int .u64 (c).uc, .int .i64 (c).pk, .int .i64 (c).bt] ∧ wz.cell? ⟨p8, 0, none⟩ = some (.int .i64 c.id) ∧ p8 < wz.heap.size ∧ Below w7.heap.size w7 wz) ∧ (match ps with
        | [] => True
        | [(_, v)] => ∃ a2 d2, v = .slice a2 u d2 ∧ IntsV wz a2 U
        | [_, (_, v)] => v = .bool true
        | [_, _, (_, v)] => v = .int .i64 (u : Int)
        | [_, _, _, (_, v)] => ∃ a2 d2, v = .slice a2 q d2 ∧ IntsV wz a2 C
        | [_, _, _, (_, v), (_, v')] => (∃ a2 d2, v = .slice a2 q d2 ∧ IntsV wz a2 C) ∧ ∃ a3 d3, v' = .slice a3 q d3 ∧ IntsV wz a3 C
        | [_, _, _, _, _, (_, v)] => v = .bool true
        | _ => True))) := ⟨_, rfl⟩; have HCl := Lib.hid hCl; clear hCl; refine Reg2.wp_region_lineS [(0, false), (1, false), (2, false), (3, false), (4, false), (5, false), (6, false), (7, false), (8, false), (9, false), (10, false), (12, false), (11, false), (13, false), (14, false), (15, false), (16, false), (17, false), (18, false), (19, false), (21, false), (22, false), (20, false), (23, false), (24, false), (25, false), (26, false), (27, false), (28, false), (30, false), (31, false), (32, false), (29, false), (33, false), (34, false), (35, false), (36, false)] [11, 13, 20, 29, 33, 34] Cl (by kernel_rfl) (by kernel_rfl) (by kernel_rfl) (by rw [HCl.out]; (try simp only [List.nil_append, List.cons_append]); (try dsimp only); exact ⟨⟨HV8b.out.bel hbq, HV9b.out.bel hbq, (HV8b.out.bel hbq).cell 0 rfl, (HV8b.out.bel hbq).lt, hbq⟩, trivial⟩) ?_
      clear hbq
      (repeat (first | (refine Reg2.wS_skip (by (simp only [List.getElem?_toArray, List.getElem?_cons_succ, List.getElem?_cons_zero]) <;> rfl) (by rfl) ?_; simp only [Act.put, Nat.reduceAdd, List.setIfInBounds_toArray, List.set_cons_zero, List.set_cons_succ, List.nil_append, List.cons_append]) | (refine Reg2.wS_open (by (simp only [List.getElem?_toArray, List.getElem?_cons_succ, List.getElem?_cons_zero]) <;> rfl) (by rfl) (by rfl) ⟨.agg #[.int .i64 (c).id, .int .i64 (c).par, .bool (c).leaf, .int .u64 (c).ra, .int .u64 (c).rb, .int .u64 (c).rc, .int .u64 (c).la, .int .u64 (c).lb, .int .u64 (c).lc, .int .u64 (c).ua, .int .u64 (c).ub, .int .u64 (c).uc, .int .i64 (c).pk, .int .i64 (c).bt], fun vs wq hw => ?_, ?_⟩; (focus (rw [HCl.out] at hw; (try simp only [List.nil_append, List.cons_append] at hw); (try dsimp only at hw); exact quiet_var 31 _ rfl p9 #[.int .i64 (c).id, .int .i64 (c).par, .bool (c).leaf, .int .u64 (c).ra, .int .u64 (c).rb, .int .u64 (c).rc, .int .u64 (c).la, .int .u64 (c).lb, .int .u64 (c).lc, .int .u64 (c).ua, .int .u64 (c).ub, .int .u64 (c).uc, .int .i64 (c).pk, .int .i64 (c).bt] _ hw.1.2.1 rfl Try.underlying31 rfl INF.out)); simp only [Act.put, Nat.reduceAdd, List.setIfInBounds_toArray, List.set_cons_zero, List.set_cons_succ, List.nil_append, List.cons_append]) | (refine Reg2.wS_open (by (simp only [List.getElem?_toArray, List.getElem?_cons_succ, List.getElem?_cons_zero]) <;> rfl) (by rfl) (by rfl) ⟨.agg #[.int .i64 (c).id, .int .i64 (c).par, .bool (c).leaf, .int .u64 (c).ra, .int .u64 (c).rb, .int .u64 (c).rc, .int .u64 (c).la, .int .u64 (c).lb, .int .u64 (c).lc, .int .u64 (c).ua, .int .u64 (c).ub, .int .u64 (c).uc, .int .i64 (c).pk, .int .i64 (c).bt], fun vs wq hw => ?_, ?_⟩; (focus (rw [HCl.out] at hw; (try simp only [List.nil_append, List.cons_append] at hw); (try dsimp only at hw); exact quiet_var 31 _ rfl p8 #[.int .i64 (c).id, .int .i64 (c).par, .bool (c).leaf, .int .u64 (c).ra, .int .u64 (c).rb, .int .u64 (c).rc, .int .u64 (c).la, .int .u64 (c).lb, .int .u64 (c).lc, .int .u64 (c).ua, .int .u64 (c).ub, .int .u64 (c).uc, .int .i64 (c).pk, .int .i64 (c).bt] _ hw.1.1 rfl Try.underlying31 rfl INF.out)); simp only [Act.put, Nat.reduceAdd, List.setIfInBounds_toArray, List.set_cons_zero, List.set_cons_succ, List.nil_append, List.cons_append]) | (refine Reg2.wS_open (by (simp only [List.getElem?_toArray, List.getElem?_cons_succ, List.getElem?_cons_zero]) <;> rfl) (by rfl) (by rfl) ?_; apply Exists.intro; refine ⟨fun vs wq hw => ?_, ?_⟩; (focus (rw [HCl.out] at hw; (try simp only [List.nil_append, List.cons_append] at hw); (try dsimp only at hw); go_split_ands; go_simp <;> first | with_reducible exact (rfl : Value.bool false = _) | with_reducible exact (rfl : Value.bool true = _) | ((try go_bits) <;> exact rfl))); simp only [Act.put, Nat.reduceAdd, List.setIfInBounds_toArray, List.set_cons_zero, List.set_cons_succ, List.nil_append, List.cons_append])))
      refine Reg2.wS_eff (by (simp only [List.getElem?_toArray, List.getElem?_cons_succ, List.getElem?_cons_zero]) <;> rfl) (by rfl) (by rfl) (fun wq hw => ?_) (fun u9 hu => ?_)
      focus
        rw [HCl.out] at hw; (try simp only [List.nil_append, List.cons_append] at hw); (try dsimp only at hw)
        obtain ⟨hA, -⟩ := hw
        go_simp
        go_at_call 22
        (with_reducible refine (KU.out _ (HBZ.out _ hA.2.2.2.2)).mono ?_)
        rintro e w9 ⟨a2, d2, rfl, hi2, hbel⟩
        refine ⟨_, rfl, ?_⟩
        rw [HCl.out]; (try simp only [List.nil_append, List.cons_append]); (try dsimp only)
        exact ⟨a7_bel hA hbel, a2, d2, rfl, hi2⟩
      (obtain ⟨wz, hz⟩ := hu; rw [HCl.out] at hz; (try simp only [List.nil_append, List.cons_append] at hz); (try dsimp only at hz))
      obtain ⟨-, a2, d2, rfl, -⟩ := hz
      clear wz
      simp only [Act.put, Nat.reduceAdd, List.setIfInBounds_toArray, List.set_cons_zero, List.set_cons_succ, List.nil_append, List.cons_append]
      (repeat (first | (refine Reg2.wS_skip (by (simp only [List.getElem?_toArray, List.getElem?_cons_succ, List.getElem?_cons_zero]) <;> rfl) (by rfl) ?_; simp only [Act.put, Nat.reduceAdd, List.setIfInBounds_toArray, List.set_cons_zero, List.set_cons_succ, List.nil_append, List.cons_append]) | (refine Reg2.wS_open (by (simp only [List.getElem?_toArray, List.getElem?_cons_succ, List.getElem?_cons_zero]) <;> rfl) (by rfl) (by rfl) ⟨.agg #[.int .i64 (c).id, .int .i64 (c).par, .bool (c).leaf, .int .u64 (c).ra, .int .u64 (c).rb, .int .u64 (c).rc, .int .u64 (c).la, .int .u64 (c).lb, .int .u64 (c).lc, .int .u64 (c).ua, .int .u64 (c).ub, .int .u64 (c).uc, .int .i64 (c).pk, .int .i64 (c).bt], fun vs wq hw => ?_, ?_⟩; (focus (rw [HCl.out] at hw; (try simp only [List.nil_append, List.cons_append] at hw); (try dsimp only at hw); exact quiet_var 31 _ rfl p9 #[.int .i64 (c).id, .int .i64 (c).par, .bool (c).leaf, .int .u64 (c).ra, .int .u64 (c).rb, .int .u64 (c).rc, .int .u64 (c).la, .int .u64 (c).lb, .int .u64 (c).lc, .int .u64 (c).ua, .int .u64 (c).ub, .int .u64 (c).uc, .int .i64 (c).pk, .int .i64 (c).bt] _ hw.1.2.1 rfl Try.underlying31 rfl INF.out)); simp only [Act.put, Nat.reduceAdd, List.setIfInBounds_toArray, List.set_cons_zero, List.set_cons_succ, List.nil_append, List.cons_append]) | (refine Reg2.wS_open (by (simp only [List.getElem?_toArray, List.getElem?_cons_succ, List.getElem?_cons_zero]) <;> rfl) (by rfl) (by rfl) ⟨.agg #[.int .i64 (c).id, .int .i64 (c).par, .bool (c).leaf, .int .u64 (c).ra, .int .u64 (c).rb, .int .u64 (c).rc, .int .u64 (c).la, .int .u64 (c).lb, .int .u64 (c).lc, .int .u64 (c).ua, .int .u64 (c).ub, .int .u64 (c).uc, .int .i64 (c).pk, .int .i64 (c).bt], fun vs wq hw => ?_, ?_⟩; (focus (rw [HCl.out] at hw; (try simp only [List.nil_append, List.cons_append] at hw); (try dsimp only at hw); exact quiet_var 31 _ rfl p8 #[.int .i64 (c).id, .int .i64 (c).par, .bool (c).leaf, .int .u64 (c).ra, .int .u64 (c).rb, .int .u64 (c).rc, .int .u64 (c).la, .int .u64 (c).lb, .int .u64 (c).lc, .int .u64 (c).ua, .int .u64 (c).ub, .int .u64 (c).uc, .int .i64 (c).pk, .int .i64 (c).bt] _ hw.1.1 rfl Try.underlying31 rfl INF.out)); simp only [Act.put, Nat.reduceAdd, List.setIfInBounds_toArray, List.set_cons_zero, List.set_cons_succ, List.nil_append, List.cons_append]) | (refine Reg2.wS_open (by (simp only [List.getElem?_toArray, List.getElem?_cons_succ, List.getElem?_cons_zero]) <;> rfl) (by rfl) (by rfl) ?_; apply Exists.intro; refine ⟨fun vs wq hw => ?_, ?_⟩; (focus (rw [HCl.out] at hw; (try simp only [List.nil_append, List.cons_append] at hw); (try dsimp only at hw); go_split_ands; go_simp <;> first | with_reducible exact (rfl : Value.bool false = _) | with_reducible exact (rfl : Value.bool true = _) | ((try go_bits) <;> exact rfl))); simp only [Act.put, Nat.reduceAdd, List.setIfInBounds_toArray, List.set_cons_zero, List.set_cons_succ, List.nil_append, List.cons_append])))
      refine Reg2.wS_eff (by (simp only [List.getElem?_toArray, List.getElem?_cons_succ, List.getElem?_cons_zero]) <;> rfl) (by rfl) (by rfl) (fun wq hw => ?_) (fun u9 hu => ?_)
      focus
        rw [HCl.out] at hw; (try simp only [List.nil_append, List.cons_append] at hw); (try dsimp only at hw)
        obtain ⟨hA, a3, d3, he3, hi3⟩ := hw
        (injection he3 with h1 h2 h3)
        subst h1 h3
        go_simp
        go_at_call 41
        (with_reducible refine (KIU.out _ _ _ _ _ hi3 (HUI7.out _ hA.2.2.2.2)).mono ?_)
        rintro e w9 ⟨rfl, hbel⟩
        refine ⟨_, rfl, ?_⟩
        rw [HCl.out]; (try simp only [List.nil_append, List.cons_append]); (try dsimp only)
        exact ⟨a7_bel hA hbel, by first | rfl | trivial⟩
      (obtain ⟨wz, hz⟩ := hu; rw [HCl.out] at hz; (try simp only [List.nil_append, List.cons_append] at hz); (try dsimp only at hz))
      obtain ⟨-, rfl⟩ := hz
      clear wz
      simp only [Act.put, Nat.reduceAdd, List.setIfInBounds_toArray, List.set_cons_zero, List.set_cons_succ, List.nil_append, List.cons_append]
      (repeat (first | (refine Reg2.wS_skip (by (simp only [List.getElem?_toArray, List.getElem?_cons_succ, List.getElem?_cons_zero]) <;> rfl) (by rfl) ?_; simp only [Act.put, Nat.reduceAdd, List.setIfInBounds_toArray, List.set_cons_zero, List.set_cons_succ, List.nil_append, List.cons_append]) | (refine Reg2.wS_open (by (simp only [List.getElem?_toArray, List.getElem?_cons_succ, List.getElem?_cons_zero]) <;> rfl) (by rfl) (by rfl) ⟨.agg #[.int .i64 (c).id, .int .i64 (c).par, .bool (c).leaf, .int .u64 (c).ra, .int .u64 (c).rb, .int .u64 (c).rc, .int .u64 (c).la, .int .u64 (c).lb, .int .u64 (c).lc, .int .u64 (c).ua, .int .u64 (c).ub, .int .u64 (c).uc, .int .i64 (c).pk, .int .i64 (c).bt], fun vs wq hw => ?_, ?_⟩; (focus (rw [HCl.out] at hw; (try simp only [List.nil_append, List.cons_append] at hw); (try dsimp only at hw); exact quiet_var 31 _ rfl p9 #[.int .i64 (c).id, .int .i64 (c).par, .bool (c).leaf, .int .u64 (c).ra, .int .u64 (c).rb, .int .u64 (c).rc, .int .u64 (c).la, .int .u64 (c).lb, .int .u64 (c).lc, .int .u64 (c).ua, .int .u64 (c).ub, .int .u64 (c).uc, .int .i64 (c).pk, .int .i64 (c).bt] _ hw.1.2.1 rfl Try.underlying31 rfl INF.out)); simp only [Act.put, Nat.reduceAdd, List.setIfInBounds_toArray, List.set_cons_zero, List.set_cons_succ, List.nil_append, List.cons_append]) | (refine Reg2.wS_open (by (simp only [List.getElem?_toArray, List.getElem?_cons_succ, List.getElem?_cons_zero]) <;> rfl) (by rfl) (by rfl) ⟨.agg #[.int .i64 (c).id, .int .i64 (c).par, .bool (c).leaf, .int .u64 (c).ra, .int .u64 (c).rb, .int .u64 (c).rc, .int .u64 (c).la, .int .u64 (c).lb, .int .u64 (c).lc, .int .u64 (c).ua, .int .u64 (c).ub, .int .u64 (c).uc, .int .i64 (c).pk, .int .i64 (c).bt], fun vs wq hw => ?_, ?_⟩; (focus (rw [HCl.out] at hw; (try simp only [List.nil_append, List.cons_append] at hw); (try dsimp only at hw); exact quiet_var 31 _ rfl p8 #[.int .i64 (c).id, .int .i64 (c).par, .bool (c).leaf, .int .u64 (c).ra, .int .u64 (c).rb, .int .u64 (c).rc, .int .u64 (c).la, .int .u64 (c).lb, .int .u64 (c).lc, .int .u64 (c).ua, .int .u64 (c).ub, .int .u64 (c).uc, .int .i64 (c).pk, .int .i64 (c).bt] _ hw.1.1 rfl Try.underlying31 rfl INF.out)); simp only [Act.put, Nat.reduceAdd, List.setIfInBounds_toArray, List.set_cons_zero, List.set_cons_succ, List.nil_append, List.cons_append]) | (refine Reg2.wS_open (by (simp only [List.getElem?_toArray, List.getElem?_cons_succ, List.getElem?_cons_zero]) <;> rfl) (by rfl) (by rfl) ?_; apply Exists.intro; refine ⟨fun vs wq hw => ?_, ?_⟩; (focus (rw [HCl.out] at hw; (try simp only [List.nil_append, List.cons_append] at hw); (try dsimp only at hw); go_split_ands; go_simp <;> first | with_reducible exact (rfl : Value.bool false = _) | with_reducible exact (rfl : Value.bool true = _) | ((try go_bits) <;> exact rfl))); simp only [Act.put, Nat.reduceAdd, List.setIfInBounds_toArray, List.set_cons_zero, List.set_cons_succ, List.nil_append, List.cons_append])))
      refine Reg2.wS_eff (by (simp only [List.getElem?_toArray, List.getElem?_cons_succ, List.getElem?_cons_zero]) <;> rfl) (by rfl) (by rfl) (fun wq hw => ?_) (fun u9 hu => ?_)
      focus
        rw [HCl.out] at hw; (try simp only [List.nil_append, List.cons_append] at hw); (try dsimp only at hw)
        obtain ⟨hA, -⟩ := hw
        go_simp
        go_at_call 26
        (with_reducible refine (KD.out _ (HBZ.out _ hA.2.2.2.2)).mono ?_)
        rintro e w9 ⟨rfl, hbel⟩
        refine ⟨_, rfl, ?_⟩
        rw [HCl.out]; (try simp only [List.nil_append, List.cons_append]); (try dsimp only)
        exact ⟨a7_bel hA hbel, by first | rfl | trivial⟩
      (obtain ⟨wz, hz⟩ := hu; rw [HCl.out] at hz; (try simp only [List.nil_append, List.cons_append] at hz); (try dsimp only at hz))
      obtain ⟨-, rfl⟩ := hz
      clear wz
      simp only [Act.put, Nat.reduceAdd, List.setIfInBounds_toArray, List.set_cons_zero, List.set_cons_succ, List.nil_append, List.cons_append]
      (repeat (first | (refine Reg2.wS_skip (by (simp only [List.getElem?_toArray, List.getElem?_cons_succ, List.getElem?_cons_zero]) <;> rfl) (by rfl) ?_; simp only [Act.put, Nat.reduceAdd, List.setIfInBounds_toArray, List.set_cons_zero, List.set_cons_succ, List.nil_append, List.cons_append]) | (refine Reg2.wS_open (by (simp only [List.getElem?_toArray, List.getElem?_cons_succ, List.getElem?_cons_zero]) <;> rfl) (by rfl) (by rfl) ⟨.agg #[.int .i64 (c).id, .int .i64 (c).par, .bool (c).leaf, .int .u64 (c).ra, .int .u64 (c).rb, .int .u64 (c).rc, .int .u64 (c).la, .int .u64 (c).lb, .int .u64 (c).lc, .int .u64 (c).ua, .int .u64 (c).ub, .int .u64 (c).uc, .int .i64 (c).pk, .int .i64 (c).bt], fun vs wq hw => ?_, ?_⟩; (focus (rw [HCl.out] at hw; (try simp only [List.nil_append, List.cons_append] at hw); (try dsimp only at hw); exact quiet_var 31 _ rfl p9 #[.int .i64 (c).id, .int .i64 (c).par, .bool (c).leaf, .int .u64 (c).ra, .int .u64 (c).rb, .int .u64 (c).rc, .int .u64 (c).la, .int .u64 (c).lb, .int .u64 (c).lc, .int .u64 (c).ua, .int .u64 (c).ub, .int .u64 (c).uc, .int .i64 (c).pk, .int .i64 (c).bt] _ hw.1.2.1 rfl Try.underlying31 rfl INF.out)); simp only [Act.put, Nat.reduceAdd, List.setIfInBounds_toArray, List.set_cons_zero, List.set_cons_succ, List.nil_append, List.cons_append]) | (refine Reg2.wS_open (by (simp only [List.getElem?_toArray, List.getElem?_cons_succ, List.getElem?_cons_zero]) <;> rfl) (by rfl) (by rfl) ⟨.agg #[.int .i64 (c).id, .int .i64 (c).par, .bool (c).leaf, .int .u64 (c).ra, .int .u64 (c).rb, .int .u64 (c).rc, .int .u64 (c).la, .int .u64 (c).lb, .int .u64 (c).lc, .int .u64 (c).ua, .int .u64 (c).ub, .int .u64 (c).uc, .int .i64 (c).pk, .int .i64 (c).bt], fun vs wq hw => ?_, ?_⟩; (focus (rw [HCl.out] at hw; (try simp only [List.nil_append, List.cons_append] at hw); (try dsimp only at hw); exact quiet_var 31 _ rfl p8 #[.int .i64 (c).id, .int .i64 (c).par, .bool (c).leaf, .int .u64 (c).ra, .int .u64 (c).rb, .int .u64 (c).rc, .int .u64 (c).la, .int .u64 (c).lb, .int .u64 (c).lc, .int .u64 (c).ua, .int .u64 (c).ub, .int .u64 (c).uc, .int .i64 (c).pk, .int .i64 (c).bt] _ hw.1.1 rfl Try.underlying31 rfl INF.out)); simp only [Act.put, Nat.reduceAdd, List.setIfInBounds_toArray, List.set_cons_zero, List.set_cons_succ, List.nil_append, List.cons_append]) | (refine Reg2.wS_open (by (simp only [List.getElem?_toArray, List.getElem?_cons_succ, List.getElem?_cons_zero]) <;> rfl) (by rfl) (by rfl) ?_; apply Exists.intro; refine ⟨fun vs wq hw => ?_, ?_⟩; (focus (rw [HCl.out] at hw; (try simp only [List.nil_append, List.cons_append] at hw); (try dsimp only at hw); go_split_ands; go_simp <;> first | with_reducible exact (rfl : Value.bool false = _) | with_reducible exact (rfl : Value.bool true = _) | ((try go_bits) <;> exact rfl))); simp only [Act.put, Nat.reduceAdd, List.setIfInBounds_toArray, List.set_cons_zero, List.set_cons_succ, List.nil_append, List.cons_append])))
      refine Reg2.wS_eff (by (simp only [List.getElem?_toArray, List.getElem?_cons_succ, List.getElem?_cons_zero]) <;> rfl) (by rfl) (by rfl) (fun wq hw => ?_) (fun u9 hu => ?_)
      focus
        rw [HCl.out] at hw; (try simp only [List.nil_append, List.cons_append] at hw); (try dsimp only at hw)
        obtain ⟨hA, -⟩ := hw
        go_simp
        go_at_call 25
        (with_reducible refine (KC.out _ (HBZ.out _ hA.2.2.2.2)).mono ?_)
        rintro e w9 ⟨a5, d5, rfl, hi5, hbel⟩
        refine ⟨_, rfl, ?_⟩
        rw [HCl.out]; (try simp only [List.nil_append, List.cons_append]); (try dsimp only)
        exact ⟨a7_bel hA hbel, a5, d5, rfl, hi5⟩
      (obtain ⟨wz, hz⟩ := hu; rw [HCl.out] at hz; (try simp only [List.nil_append, List.cons_append] at hz); (try dsimp only at hz))
      obtain ⟨-, a5, d5, rfl, -⟩ := hz
      clear wz
      simp only [Act.put, Nat.reduceAdd, List.setIfInBounds_toArray, List.set_cons_zero, List.set_cons_succ, List.nil_append, List.cons_append]
      (repeat (first | (refine Reg2.wS_skip (by (simp only [List.getElem?_toArray, List.getElem?_cons_succ, List.getElem?_cons_zero]) <;> rfl) (by rfl) ?_; simp only [Act.put, Nat.reduceAdd, List.setIfInBounds_toArray, List.set_cons_zero, List.set_cons_succ, List.nil_append, List.cons_append]) | (refine Reg2.wS_open (by (simp only [List.getElem?_toArray, List.getElem?_cons_succ, List.getElem?_cons_zero]) <;> rfl) (by rfl) (by rfl) ⟨.agg #[.int .i64 (c).id, .int .i64 (c).par, .bool (c).leaf, .int .u64 (c).ra, .int .u64 (c).rb, .int .u64 (c).rc, .int .u64 (c).la, .int .u64 (c).lb, .int .u64 (c).lc, .int .u64 (c).ua, .int .u64 (c).ub, .int .u64 (c).uc, .int .i64 (c).pk, .int .i64 (c).bt], fun vs wq hw => ?_, ?_⟩; (focus (rw [HCl.out] at hw; (try simp only [List.nil_append, List.cons_append] at hw); (try dsimp only at hw); exact quiet_var 31 _ rfl p9 #[.int .i64 (c).id, .int .i64 (c).par, .bool (c).leaf, .int .u64 (c).ra, .int .u64 (c).rb, .int .u64 (c).rc, .int .u64 (c).la, .int .u64 (c).lb, .int .u64 (c).lc, .int .u64 (c).ua, .int .u64 (c).ub, .int .u64 (c).uc, .int .i64 (c).pk, .int .i64 (c).bt] _ hw.1.2.1 rfl Try.underlying31 rfl INF.out)); simp only [Act.put, Nat.reduceAdd, List.setIfInBounds_toArray, List.set_cons_zero, List.set_cons_succ, List.nil_append, List.cons_append]) | (refine Reg2.wS_open (by (simp only [List.getElem?_toArray, List.getElem?_cons_succ, List.getElem?_cons_zero]) <;> rfl) (by rfl) (by rfl) ⟨.agg #[.int .i64 (c).id, .int .i64 (c).par, .bool (c).leaf, .int .u64 (c).ra, .int .u64 (c).rb, .int .u64 (c).rc, .int .u64 (c).la, .int .u64 (c).lb, .int .u64 (c).lc, .int .u64 (c).ua, .int .u64 (c).ub, .int .u64 (c).uc, .int .i64 (c).pk, .int .i64 (c).bt], fun vs wq hw => ?_, ?_⟩; (focus (rw [HCl.out] at hw; (try simp only [List.nil_append, List.cons_append] at hw); (try dsimp only at hw); exact quiet_var 31 _ rfl p8 #[.int .i64 (c).id, .int .i64 (c).par, .bool (c).leaf, .int .u64 (c).ra, .int .u64 (c).rb, .int .u64 (c).rc, .int .u64 (c).la, .int .u64 (c).lb, .int .u64 (c).lc, .int .u64 (c).ua, .int .u64 (c).ub, .int .u64 (c).uc, .int .i64 (c).pk, .int .i64 (c).bt] _ hw.1.1 rfl Try.underlying31 rfl INF.out)); simp only [Act.put, Nat.reduceAdd, List.setIfInBounds_toArray, List.set_cons_zero, List.set_cons_succ, List.nil_append, List.cons_append]) | (refine Reg2.wS_open (by (simp only [List.getElem?_toArray, List.getElem?_cons_succ, List.getElem?_cons_zero]) <;> rfl) (by rfl) (by rfl) ?_; apply Exists.intro; refine ⟨fun vs wq hw => ?_, ?_⟩; (focus (rw [HCl.out] at hw; (try simp only [List.nil_append, List.cons_append] at hw); (try dsimp only at hw); go_split_ands; go_simp <;> first | with_reducible exact (rfl : Value.bool false = _) | with_reducible exact (rfl : Value.bool true = _) | ((try go_bits) <;> exact rfl))); simp only [Act.put, Nat.reduceAdd, List.setIfInBounds_toArray, List.set_cons_zero, List.set_cons_succ, List.nil_append, List.cons_append])))
      refine Reg2.wS_eff (by (simp only [List.getElem?_toArray, List.getElem?_cons_succ, List.getElem?_cons_zero]) <;> rfl) (by rfl) (by rfl) (fun wq hw => ?_) (fun u9 hu => ?_)
      focus
        rw [HCl.out] at hw; (try simp only [List.nil_append, List.cons_append] at hw); (try dsimp only at hw)
        obtain ⟨hA, a6, d6, he6, hi6⟩ := hw
        (injection he6 with h1 h2 h3)
        subst h1 h3
        go_simp
        go_at_call 65
        (with_reducible refine (KRC.out _ (HBZ.out _ hA.2.2.2.2)).mono ?_)
        rintro e w9 ⟨a7, d7, rfl, hi7, hbel⟩
        refine ⟨_, rfl, ?_⟩
        rw [HCl.out]; (try simp only [List.nil_append, List.cons_append]); (try dsimp only)
        exact ⟨a7_bel hA hbel, ⟨_, _, rfl, hi6.below hbel⟩, a7, d7, rfl, hi7⟩
      (obtain ⟨wz, hz⟩ := hu; rw [HCl.out] at hz; (try simp only [List.nil_append, List.cons_append] at hz); (try dsimp only at hz))
      obtain ⟨-, -, a7, d7, rfl, -⟩ := hz
      clear wz
      simp only [Act.put, Nat.reduceAdd, List.setIfInBounds_toArray, List.set_cons_zero, List.set_cons_succ, List.nil_append, List.cons_append]
      (repeat (first | (refine Reg2.wS_skip (by (simp only [List.getElem?_toArray, List.getElem?_cons_succ, List.getElem?_cons_zero]) <;> rfl) (by rfl) ?_; simp only [Act.put, Nat.reduceAdd, List.setIfInBounds_toArray, List.set_cons_zero, List.set_cons_succ, List.nil_append, List.cons_append]) | (refine Reg2.wS_open (by (simp only [List.getElem?_toArray, List.getElem?_cons_succ, List.getElem?_cons_zero]) <;> rfl) (by rfl) (by rfl) ⟨.agg #[.int .i64 (c).id, .int .i64 (c).par, .bool (c).leaf, .int .u64 (c).ra, .int .u64 (c).rb, .int .u64 (c).rc, .int .u64 (c).la, .int .u64 (c).lb, .int .u64 (c).lc, .int .u64 (c).ua, .int .u64 (c).ub, .int .u64 (c).uc, .int .i64 (c).pk, .int .i64 (c).bt], fun vs wq hw => ?_, ?_⟩; (focus (rw [HCl.out] at hw; (try simp only [List.nil_append, List.cons_append] at hw); (try dsimp only at hw); exact quiet_var 31 _ rfl p9 #[.int .i64 (c).id, .int .i64 (c).par, .bool (c).leaf, .int .u64 (c).ra, .int .u64 (c).rb, .int .u64 (c).rc, .int .u64 (c).la, .int .u64 (c).lb, .int .u64 (c).lc, .int .u64 (c).ua, .int .u64 (c).ub, .int .u64 (c).uc, .int .i64 (c).pk, .int .i64 (c).bt] _ hw.1.2.1 rfl Try.underlying31 rfl INF.out)); simp only [Act.put, Nat.reduceAdd, List.setIfInBounds_toArray, List.set_cons_zero, List.set_cons_succ, List.nil_append, List.cons_append]) | (refine Reg2.wS_open (by (simp only [List.getElem?_toArray, List.getElem?_cons_succ, List.getElem?_cons_zero]) <;> rfl) (by rfl) (by rfl) ⟨.agg #[.int .i64 (c).id, .int .i64 (c).par, .bool (c).leaf, .int .u64 (c).ra, .int .u64 (c).rb, .int .u64 (c).rc, .int .u64 (c).la, .int .u64 (c).lb, .int .u64 (c).lc, .int .u64 (c).ua, .int .u64 (c).ub, .int .u64 (c).uc, .int .i64 (c).pk, .int .i64 (c).bt], fun vs wq hw => ?_, ?_⟩; (focus (rw [HCl.out] at hw; (try simp only [List.nil_append, List.cons_append] at hw); (try dsimp only at hw); exact quiet_var 31 _ rfl p8 #[.int .i64 (c).id, .int .i64 (c).par, .bool (c).leaf, .int .u64 (c).ra, .int .u64 (c).rb, .int .u64 (c).rc, .int .u64 (c).la, .int .u64 (c).lb, .int .u64 (c).lc, .int .u64 (c).ua, .int .u64 (c).ub, .int .u64 (c).uc, .int .i64 (c).pk, .int .i64 (c).bt] _ hw.1.1 rfl Try.underlying31 rfl INF.out)); simp only [Act.put, Nat.reduceAdd, List.setIfInBounds_toArray, List.set_cons_zero, List.set_cons_succ, List.nil_append, List.cons_append]) | (refine Reg2.wS_open (by (simp only [List.getElem?_toArray, List.getElem?_cons_succ, List.getElem?_cons_zero]) <;> rfl) (by rfl) (by rfl) ?_; apply Exists.intro; refine ⟨fun vs wq hw => ?_, ?_⟩; (focus (rw [HCl.out] at hw; (try simp only [List.nil_append, List.cons_append] at hw); (try dsimp only at hw); go_split_ands; go_simp <;> first | with_reducible exact (rfl : Value.bool false = _) | with_reducible exact (rfl : Value.bool true = _) | ((try go_bits) <;> exact rfl))); simp only [Act.put, Nat.reduceAdd, List.setIfInBounds_toArray, List.set_cons_zero, List.set_cons_succ, List.nil_append, List.cons_append])))
      refine Reg2.wS_eff (by (simp only [List.getElem?_toArray, List.getElem?_cons_succ, List.getElem?_cons_zero]) <;> rfl) (by rfl) (by rfl) (fun wq hw => ?_) (fun u9 hu => ?_)
      focus
        rw [HCl.out] at hw; (try simp only [List.nil_append, List.cons_append] at hw); (try dsimp only at hw)
        obtain ⟨hA, ⟨a6, d6, he6, hi6⟩, a8, d8, he8, hi8⟩ := hw
        (injection he6 with h1 h2 h3)
        subst h1 h3
        (injection he8 with h1 h2 h3)
        subst h1 h3
        go_simp
        go_at_call 41
        (with_reducible refine (KIC.out _ _ _ _ _ hi6 hi8).mono ?_)
        rintro e w9 ⟨rfl, hbel⟩
        refine ⟨_, rfl, ?_⟩
        rw [HCl.out]; (try simp only [List.nil_append, List.cons_append]); (try dsimp only)
        exact ⟨a7_bel hA hbel, by first | rfl | trivial⟩
      (obtain ⟨wz, hz⟩ := hu; rw [HCl.out] at hz; (try simp only [List.nil_append, List.cons_append] at hz); (try dsimp only at hz))
      obtain ⟨-, rfl⟩ := hz
      clear wz
      simp only [Act.put, Nat.reduceAdd, List.setIfInBounds_toArray, List.set_cons_zero, List.set_cons_succ, List.nil_append, List.cons_append]
      (repeat (first | (refine Reg2.wS_skip (by (simp only [List.getElem?_toArray, List.getElem?_cons_succ, List.getElem?_cons_zero]) <;> rfl) (by rfl) ?_; simp only [Act.put, Nat.reduceAdd, List.setIfInBounds_toArray, List.set_cons_zero, List.set_cons_succ, List.nil_append, List.cons_append]) | (refine Reg2.wS_open (by (simp only [List.getElem?_toArray, List.getElem?_cons_succ, List.getElem?_cons_zero]) <;> rfl) (by rfl) (by rfl) ⟨.agg #[.int .i64 (c).id, .int .i64 (c).par, .bool (c).leaf, .int .u64 (c).ra, .int .u64 (c).rb, .int .u64 (c).rc, .int .u64 (c).la, .int .u64 (c).lb, .int .u64 (c).lc, .int .u64 (c).ua, .int .u64 (c).ub, .int .u64 (c).uc, .int .i64 (c).pk, .int .i64 (c).bt], fun vs wq hw => ?_, ?_⟩; (focus (rw [HCl.out] at hw; (try simp only [List.nil_append, List.cons_append] at hw); (try dsimp only at hw); exact quiet_var 31 _ rfl p9 #[.int .i64 (c).id, .int .i64 (c).par, .bool (c).leaf, .int .u64 (c).ra, .int .u64 (c).rb, .int .u64 (c).rc, .int .u64 (c).la, .int .u64 (c).lb, .int .u64 (c).lc, .int .u64 (c).ua, .int .u64 (c).ub, .int .u64 (c).uc, .int .i64 (c).pk, .int .i64 (c).bt] _ hw.1.2.1 rfl Try.underlying31 rfl INF.out)); simp only [Act.put, Nat.reduceAdd, List.setIfInBounds_toArray, List.set_cons_zero, List.set_cons_succ, List.nil_append, List.cons_append]) | (refine Reg2.wS_open (by (simp only [List.getElem?_toArray, List.getElem?_cons_succ, List.getElem?_cons_zero]) <;> rfl) (by rfl) (by rfl) ⟨.agg #[.int .i64 (c).id, .int .i64 (c).par, .bool (c).leaf, .int .u64 (c).ra, .int .u64 (c).rb, .int .u64 (c).rc, .int .u64 (c).la, .int .u64 (c).lb, .int .u64 (c).lc, .int .u64 (c).ua, .int .u64 (c).ub, .int .u64 (c).uc, .int .i64 (c).pk, .int .i64 (c).bt], fun vs wq hw => ?_, ?_⟩; (focus (rw [HCl.out] at hw; (try simp only [List.nil_append, List.cons_append] at hw); (try dsimp only at hw); exact quiet_var 31 _ rfl p8 #[.int .i64 (c).id, .int .i64 (c).par, .bool (c).leaf, .int .u64 (c).ra, .int .u64 (c).rb, .int .u64 (c).rc, .int .u64 (c).la, .int .u64 (c).lb, .int .u64 (c).lc, .int .u64 (c).ua, .int .u64 (c).ub, .int .u64 (c).uc, .int .i64 (c).pk, .int .i64 (c).bt] _ hw.1.1 rfl Try.underlying31 rfl INF.out)); simp only [Act.put, Nat.reduceAdd, List.setIfInBounds_toArray, List.set_cons_zero, List.set_cons_succ, List.nil_append, List.cons_append]) | (refine Reg2.wS_open (by (simp only [List.getElem?_toArray, List.getElem?_cons_succ, List.getElem?_cons_zero]) <;> rfl) (by rfl) (by rfl) ?_; apply Exists.intro; refine ⟨fun vs wq hw => ?_, ?_⟩; (focus (rw [HCl.out] at hw; (try simp only [List.nil_append, List.cons_append] at hw); (try dsimp only at hw); go_split_ands; go_simp <;> first | with_reducible exact (rfl : Value.bool false = _) | with_reducible exact (rfl : Value.bool true = _) | ((try go_bits) <;> exact rfl))); simp only [Act.put, Nat.reduceAdd, List.setIfInBounds_toArray, List.set_cons_zero, List.set_cons_succ, List.nil_append, List.cons_append])))
      refine Reg2.wS_nil ?_; intro w' hw; rw [HCl.out] at hw; (try simp only [List.nil_append, List.cons_append] at hw); (try dsimp only at hw); clear HCl
      obtain ⟨⟨hv8, -, -, -, hb7⟩, -⟩ := hw
      have HV10 := Lib.hid hv8
      have HB10 : Hid (Below w.heap.size w w') := Lib.hid (HBZ.out _ hb7)
      have HBX : Hid (Below wr.heap.size wr w') := Lib.hid (HBW.out.trans (hb7.mono hw7r))
      have HQA := Lib.hid (HQ1.out.below HBX.out)
      have HQB := Lib.hid (HQ2.out.below HBX.out)
      have HA8 : Hid (∀ b, bk1 = some b → b ≠ p8) := Lib.hid (fun b hb => by have := (HQ1.out.lt b hb).2; have := HP8.out; omega)
      have HS10 := Lib.hid (Nat.le_trans hw7r hb7.size)
      have t0 := hv8.cell 0 rfl
      have tl := hv8.lt
      clear hv8 hb7
      cases hlf : c.leaf with
      | false =>
        have HN2 := Lib.hid (HLF0.out hlf)
        go_wp2_with (first
          | go_guarded
          | (at_builtin;  refine wpList_append_qr rfl _ _ 40 rfl w.heap.size 3 ii (.int .i64 0) 1 8 Try.underlying40 CI0.out CZ0.out CZ1.out CZ2.out rfl (by decide) (.slice o1 k c1) _ _ _ rfl (QR.below HQA.out (Below.alloc (Below.refl _ _) (Nat.le_refl _) _)) ⟨_, 0, none⟩ 1 [Value.int .i64 c.id] rfl rfl ?c1 ?c2 ?c3 ?c4 ?c5 ?_; (case c1 => (intro q9 u9 hu9; rcases q9 with _ | q9 <;> simp at hu9 <;> (try subst hu9) <;> simp [Addr.add, go_sem, *])); (case c2 => (intro v hv; simp at hv; subst hv; rfl)); (case c3 => (unfold maxLen; omega)); (case c4 => omega); (case c5 => (have := HB10.out.size; simp; omega)); intro v9 w11 b9 hq9 ho9 hb9; obtain ⟨oq, cq, rfl⟩ := hq9.form; have hAL : Below w'.heap.size w' (w'.alloc (.cells #[.int .i64 c.id] 3)) := Below.alloc (Below.refl _ _) (Nat.le_refl _) _; have HQC := Lib.hid hq9; have HQD := Lib.hid ((HQB.out.below hAL).only ho9 (fun b h2 h1 => HNE.out b h1 h2)); have HNE2 : Hid (∀ b, (some b9) = some b → bk2 = some b → False) := Lib.hid (fun b h1 h2 => by (injection h1 with h1); subst h1; rcases hb9 with g | g; exact HNE.out _ g h2; have := (HQB.out.lt _ h2).2; simp at g; omega); have HV11 := Lib.hid ((HV10.out.bel hAL).only ho9 (fun g => HA8.out _ g rfl)); have u0 := HV11.out.cell 0 rfl; have u2 := HV11.out.cell 2 rfl; rw [hlf] at u2; have ul := HV11.out.lt; have HB11 : Hid (Below w.heap.size w w11) := Lib.hid (HB10.out.trans ((hAL.mono HB10.out.size).trans ⟨ho9.1, ho9.2, ho9.3, ho9.4, fun q9 hq => ho9.5 q9 (by have := HB10.out.size; simp; omega) (fun g => by have := (HQA.out.lt q9 g).1; omega)⟩)); have HB9 := Lib.hid hb9; clear hq9 ho9 hb9 hAL))
        go_roundg (n - (k + 1))
        case rel => exact ⟨k + 1, m, _, _, o2, c2, _, bk2, rfl, rfl, by go_num, by omega, by rw [HN2.out]; exact HM.out, by rw [HTM.out]; exact HQC.out, by rw [HN2.out]; exact HQD.out, HNE2.out, HB11.out, Nat.le_refl _⟩
        case measure => omega
      | true =>
        have HN2 := Lib.hid (HLF1.out hlf)
        go_wp2_with (first
          | go_guarded
          | (at_builtin; have mk := HQC; refine wpList_append_qr rfl _ _ 40 rfl w.heap.size 3 ii (.int .i64 0) 1 8 Try.underlying40 CI0.out CZ0.out CZ1.out CZ2.out rfl (by decide) (.slice o2 m c2) _ _ _ rfl (QR.below HQD.out (Below.alloc (Below.refl _ _) (Nat.le_refl _) _)) ⟨_, 0, none⟩ 1 [Value.int .i64 c.id] rfl rfl ?c1 ?c2 ?c3 ?c4 ?c5 ?_; (case c1 => (intro q9 u9 hu9; rcases q9 with _ | q9 <;> simp at hu9 <;> (try subst hu9) <;> simp [Addr.add, go_sem, *])); (case c2 => (intro v hv; simp at hv; subst hv; rfl)); (case c3 => (unfold maxLen; omega)); (case c4 => omega); (case c5 => (have := HB11.out.size; simp; omega)); intro v9 w12 b9 hq9 ho9 hb9; obtain ⟨oq, cq, rfl⟩ := hq9.form; have hAL : Below w11.heap.size w11 (w11.alloc (.cells #[.int .i64 c.id] 3)) := Below.alloc (Below.refl _ _) (Nat.le_refl _) _; have HQF := Lib.hid hq9; have HQE := Lib.hid ((HQC.out.below hAL).only ho9 (fun b h1 h2 => HNE2.out b h1 h2)); have HNE3 := Lib.hid (fun b (h1 : _ = some b) (h2 : some b9 = some b) => (by (injection h2 with h2); subst h2; rcases hb9 with g | g; exact HNE2.out _ h1 g; have := (HQC.out.lt _ h1).2; simp at g; omega : False)); have HB12 : Hid (Below w.heap.size w w12) := Lib.hid (HB11.out.trans ((hAL.mono HB11.out.size).trans ⟨ho9.1, ho9.2, ho9.3, ho9.4, fun q9 hq => ho9.5 q9 (by have := HB11.out.size; simp; omega) (fun g => by have := (HQD.out.lt q9 g).1; omega)⟩)); clear hq9 ho9 hb9 hAL)
          | (at_builtin;  refine wpList_append_qr rfl _ _ 40 rfl w.heap.size 3 ii (.int .i64 0) 1 8 Try.underlying40 CI0.out CZ0.out CZ1.out CZ2.out rfl (by decide) (.slice o1 k c1) _ _ _ rfl (QR.below HQA.out (Below.alloc (Below.refl _ _) (Nat.le_refl _) _)) ⟨_, 0, none⟩ 1 [Value.int .i64 c.id] rfl rfl ?c1 ?c2 ?c3 ?c4 ?c5 ?_; (case c1 => (intro q9 u9 hu9; rcases q9 with _ | q9 <;> simp at hu9 <;> (try subst hu9) <;> simp [Addr.add, go_sem, *])); (case c2 => (intro v hv; simp at hv; subst hv; rfl)); (case c3 => (unfold maxLen; omega)); (case c4 => omega); (case c5 => (have := HB10.out.size; simp; omega)); intro v9 w11 b9 hq9 ho9 hb9; obtain ⟨oq, cq, rfl⟩ := hq9.form; have hAL : Below w'.heap.size w' (w'.alloc (.cells #[.int .i64 c.id] 3)) := Below.alloc (Below.refl _ _) (Nat.le_refl _) _; have HQC := Lib.hid hq9; have HQD := Lib.hid ((HQB.out.below hAL).only ho9 (fun b h2 h1 => HNE.out b h1 h2)); have HNE2 : Hid (∀ b, (some b9) = some b → bk2 = some b → False) := Lib.hid (fun b h1 h2 => by (injection h1 with h1); subst h1; rcases hb9 with g | g; exact HNE.out _ g h2; have := (HQB.out.lt _ h2).2; simp at g; omega); have HV11 := Lib.hid ((HV10.out.bel hAL).only ho9 (fun g => HA8.out _ g rfl)); have u0 := HV11.out.cell 0 rfl; have u2 := HV11.out.cell 2 rfl; rw [hlf] at u2; have ul := HV11.out.lt; have HB11 : Hid (Below w.heap.size w w11) := Lib.hid (HB10.out.trans ((hAL.mono HB10.out.size).trans ⟨ho9.1, ho9.2, ho9.3, ho9.4, fun q9 hq => ho9.5 q9 (by have := HB10.out.size; simp; omega) (fun g => by have := (HQA.out.lt q9 g).1; omega)⟩)); have HB9 := Lib.hid hb9; clear hq9 ho9 hb9 hAL))
        go_roundg (n - (k + 1))
        case rel => exact ⟨k + 1, m + 1, _, _, _, _, _, _, rfl, rfl, by go_num, by omega, by rw [HN2.out, List.length_append, HM.out]; rfl, by rw [HTM.out]; exact HQE.out, by rw [HN2.out, List.map_append]; exact HQF.out, HNE3.out, HB12.out, Nat.le_refl _⟩
        case measure => omega
    · obtain rfl : k = n := by omega
      have hT0 : L.take k = L := by rw [← HN.out, List.take_length]
      rw [hT0] at hm hq1 hq2
      have HQA := Lib.hid hq1
      have HQB := Lib.hid hq2
      have HMB := Lib.hid hm
      have KRE := Lib.hid (hrea_c (HTS.out _ hB) HI.out)
      have hre : (rowsX f L).filter rl1 = rls f (L.filter (sel f Cls.leaf)) := rls_eq (fun x hx => by obtain ⟨d, h1, _, h3, _⟩ := HI.out.rows x hx; exact ⟨d, h1, h3⟩)
      have KRR := Lib.hid (fun (z : World) (hz : Below w.heap.size w z) => rrea_c (rowsX f L) k HL.out (by omega) HI.out.rin ao cap z (HRS.out z hz))
      rw [hre] at KRR
      obtain ⟨R, hR⟩ : ∃ R, rls f (L.filter (sel f Cls.leaf)) = R := ⟨_, rfl⟩
      rw [hR] at KRR KRE
      obtain ⟨r, hr⟩ : ∃ r, R.length = r := ⟨_, rfl⟩
      have hr1000 : r ≤ 1000 := by
        rw [← hr, ← hR]
        exact Nat.le_trans (rls_len f _) (Nat.le_trans (List.length_filter_le _ _) (Nat.le_trans HI.out.len (by decide)))
      rw [hr] at KRR KRE
      have HRL := Lib.hid hr
      have KG0 := Lib.hid (fun (z : World) (hz : Below w.heap.size w z) => (by have := hget_c (HTS.out z hz) (i := 0) rfl; rw [HI.out.zero] at this; exact this : Calls Try.prog 21 #[.pointer (some ⟨tb, 0, none⟩), .int .i64 0] z fun ee w' => ee = .returned (.tuple #[.agg #[.int .i64 0, .int .i64 0, .bool false, .int .u64 0, .int .u64 0, .int .u64 0, .int .u64 0, .int .u64 0, .int .u64 0, .int .u64 0, .int .u64 0, .int .u64 0, .int .i64 0, .int .i64 0], .int .i64 6]) ∧ Below z.heap.size z w'))
      have KID : Hid (∀ z, Below w.heap.size w z → Calls Try.prog 20 #[.pointer (some ⟨tb, 0, none⟩)] z fun e z' => ∃ io ic, e = .returned (.slice io k ic) ∧ IntsV z' io L ∧ Below z.heap.size z z') := Lib.hid (fun z hz => by
        refine (ids_c (HTS.out z hz) L HI.out.srt HI.out.mem (Nat.le_trans HI.out.len (by decide)) HI.out.iok).mono ?_
        rintro e z' ⟨v, rfl, hrr, hb⟩
        rw [HN.out] at hrr
        obtain ⟨io, ic, rfl⟩ := row_form hrr
        exact ⟨io, ic, rfl, (own_ints hrr).2, hb⟩)
      have KLE : Hid (∀ z, Below w.heap.size w z → Calls Try.prog 18 #[.pointer (some ⟨tb, 0, none⟩)] z fun e z' => ∃ io ic, e = .returned (.slice io m ic) ∧ IntsV z' io (L.filter (sel f Cls.leaf)) ∧ Below z.heap.size z z') := Lib.hid (fun z hz => by
        refine (leaves_c (HTS.out z hz) L HI.out.srt HI.out.mem (Nat.le_trans HI.out.len (by decide)) HI.out.iok).mono ?_
        rintro e z' ⟨v, rfl, hrr, hb⟩
        rw [HMB.out] at hrr
        obtain ⟨io, ic, rfl⟩ := row_form hrr
        exact ⟨io, ic, rfl, (own_ints hrr).2, hb⟩)
      obtain ⟨C, hC⟩ : ∃ C, L.filter (sel f (fun y => y.par == 0)) = C := ⟨_, rfl⟩
      obtain ⟨q, hq⟩ : ∃ q, C.length = q := ⟨_, rfl⟩
      have hq64 : q ≤ 64 := by rw [← hq, ← hC]; exact Nat.le_trans (List.length_filter_le _ _) HI.out.len
      have KC : Hid (∀ z, Below w.heap.size w z → Calls Try.prog 25 #[.pointer (some ⟨tb, 0, none⟩), .int .i64 0] z fun e z' => ∃ co cc, e = .returned (.slice co q cc) ∧ IntsV z' co C ∧ Below z.heap.size z z') := Lib.hid (fun z hz => by
        refine (children_c (HTS.out z hz) 0 L HI.out.srt HI.out.mem (Nat.le_trans HI.out.len (by decide)) HI.out.iok).mono ?_
        rintro e z' ⟨v, rfl, hr, hb⟩
        rw [hC, hq] at hr
        obtain ⟨co, cc, rfl⟩ := row_form hr
        exact ⟨co, cc, rfl, (own_ints hr).2, hb⟩)
      have KRC : Hid (∀ z, Below w.heap.size w z → Calls Try.prog 65 #[.slice ao k cap, .int .i64 0] z fun e z' => ∃ co cc, e = .returned (.slice co q cc) ∧ IntsV z' co C ∧ Below z.heap.size z z') := Lib.hid (fun z hz => by
        refine (rchi_c (rowsX f L) k HL.out (by omega) 0 ao cap z (HRS.out z hz)).mono ?_
        rintro e z' ⟨v, rfl, hr, hb⟩
        have hcl : (((rowsX f L).filter (fun y => y.par == 0)).map Cls.id) = C := by rw [← hC]; exact chl_eq 0 (fun x hx => by obtain ⟨d, h1, h2, _⟩ := HI.out.rows x hx; exact ⟨d, h1, h2⟩)
        have h1 : ((rowsX f L).filter (fun y => y.par == 0)).map (fun y => Value.int .i64 y.id) = C.map (Value.int .i64) := by rw [← hcl, List.map_map]; rfl
        have h2 : ((rowsX f L).filter (fun y => y.par == 0)).length = q := by rw [← hq, ← hcl, List.length_map]
        rw [h1, h2] at hr
        obtain ⟨co, cc, rfl⟩ := row_form hr
        exact ⟨co, cc, rfl, (own_ints hr).2, hb⟩)
      have KI1 := Lib.hid (fun a1 a2 d1 d2 z h1 h2 => pints_m L k HN.out a1 a2 d1 d2 (by omega) z h1 h2)
      have KI2 := Lib.hid (fun a1 a2 d1 d2 z h1 h2 => pints_m (L.filter (sel f Cls.leaf)) m HMB.out a1 a2 d1 d2 (by omega) z h1 h2)
      have KI3 := Lib.hid (fun a1 a2 d1 d2 z h1 h2 => pints_m C q hq a1 a2 d1 d2 (by omega) z h1 h2)
      clear hm hq1 hq2 hne hB hlt hT0 hre hR hr hC hq
      go_wp2_with (first
        | go_guarded
        | (go_at_call 66; (with_reducible refine (KRR.out _ HB14.out).mono ?_); rintro _ w15 ⟨v, rfl, hrr, hbel⟩; obtain ⟨ra2, rc2, rfl⟩ := row_form hrr; have HRB := Lib.hid (own_rwv crt_len hrr HRL.out); have HRA2 := Lib.hid (HRA.out.below hbel); have HB15 : Hid (Below w.heap.size w w15) := Lib.hid (HB14.out.trans (hbel.mono HB14.out.size)); have HQA5 := Lib.hid (HQA4.out.below hbel); have HQB5 := Lib.hid (HQB4.out.below hbel); clear hrr hbel)
        | (go_at_call 27; (with_reducible refine KRE.out.mono ?_); rintro _ w14 ⟨v, rfl, hrr, hbel⟩; obtain ⟨ra1, rc1, rfl⟩ := row_form hrr; have HRA := Lib.hid (own_rwv crt_len hrr HRL.out); have HB14 : Hid (Below w.heap.size w w14) := Lib.hid (HB.out.trans (hbel.mono HB.out.size)); have HQA4 := Lib.hid (HQA.out.below hbel); have HQB4 := Lib.hid (HQB.out.below hbel); clear hrr hbel))
      try go_frame
      go_loopg [96] r (fun k9 s96 wr => ∃ i : Nat, s96 = .int .i64 i ∧ i ≤ r ∧ Below w15.heap.size w15 wr ∧ r - i ≤ k9)
      case atStart => exact ⟨0, rfl, Nat.zero_le _, Below.refl _ _, by omega⟩
      case round =>
        obtain ⟨i, rfl, hi, hBz, hi9⟩ := hrel
        have HBZ := Lib.hid hBz
        have HB16 := Lib.hid (HB15.out.trans (hBz.mono HB15.out.size))
        by_cases hlt : i < r
        · have hlC : i < R.length := by rw [HRL.out]; exact hlt
          obtain ⟨b1, f1, rfl, hb1, hr1⟩ := (HRA2.out.below hBz) i hlC
          obtain ⟨b2, f2, rfl, hb2, hr2⟩ := (HRB.out.below hBz) i hlC
          obtain ⟨c, hce⟩ : ∃ c, R[i] = c := ⟨_, rfl⟩
          rw [hce] at hr1 hr2
          have HR1 := Lib.hid (show wr.rangeAt b1 (f1 + i * 3) (#[.int .u64 c.ra, .int .u64 c.rb, .int .u64 c.rc] : Array Value).toList from hr1)
          have e0 := hr2 0 _ rfl
          have e1 := hr2 1 _ rfl
          have e2 := hr2 2 _ rfl
          have EQV := EQVH.out c.ra c.rb c.rc
          have HE0 := Lib.hid e0
          have HE1 := Lib.hid e1
          have HE2 := Lib.hid e2
          have HBL := Lib.hid hb2
          clear hBz hlC hce hr1 hr2 e0 e1 e2 hb1
          go_wp2_with (first
            | go_guarded
            | (refine wpList_var_new3 rfl rfl rfl 29 #[.int .u64 0, .int .u64 0, .int .u64 0] VALL.out rfl _ rfl _ _ rfl #[.int .u64 c.ra, .int .u64 c.rb, .int .u64 c.rc] _ rfl rfl rfl VINF.out rfl (cv3_one _ _ _) ?_; intro w17 hs17 hb17 hv17; have v0 := hv17.cell 0 rfl; have v1 := hv17.cell 1 rfl; have v2 := hv17.cell 2 rfl; have vl := hv17.lt; have y0 := (hb17.cell (p := ⟨b2, f2 + i * 3 + 0, none⟩) HBL.out).trans HE0.out; have y1 := (hb17.cell (p := ⟨b2, f2 + i * 3 + 1, none⟩) HBL.out).trans HE1.out; have y2 := (hb17.cell (p := ⟨b2, f2 + i * 3 + 2, none⟩) HBL.out).trans HE2.out; have yl := Nat.lt_of_lt_of_le HBL.out hb17.size; have HB17 := Lib.hid (HBZ.out.trans (hb17.mono HBZ.out.size)); simp only [Nat.add_zero] at y0; clear hb17 hv17)
            | (refine wpList_part_get rfl 29 _ rfl b1 (f1 + i * 3) #[.int .u64 c.ra, .int .u64 c.rb, .int .u64 c.rc] _ HR1.out rfl Try.underlying29 rfl VINF.out ?_))
          go_quiet (fail)
          have hbq : Below w17.heap.size w17 (w17.drewN nq) := below_drewN (Below.refl _ _) _
          have HB18 := Lib.hid (HB17.out.trans (hbq.mono HB17.out.size))
          clear hbq
          go_wp2_with (first | go_guarded)
          go_roundg (r - (i + 1))
          case rel => exact ⟨i + 1, by go_num, by omega, HB18.out, Nat.le_refl _⟩
          case measure => omega
        · obtain rfl : i = r := by omega
          have HQA6 := Lib.hid (HQA5.out.below hBz)
          have HQB6 := Lib.hid (HQB5.out.below hBz)
          clear hBz hlt
          go_wp2_with (first
            | go_guarded
            | (go_at_call 41; (have mk := HI26); (with_reducible refine (KI3.out _ _ _ _ _ HI25.out HI26.out).mono ?_); rintro _ w27 ⟨rfl, hbel⟩; have HB27 : Hid (Below w.heap.size w w27) := Lib.hid (HB26.out.trans (hbel.mono HB26.out.size)); clear hbel)
            | (go_at_call 65; (with_reducible refine (KRC.out _ HB25.out).mono ?_); rintro _ w26 ⟨r1, r2, rfl, hri, hbel⟩; have HI26 := Lib.hid hri; have HI25 := Lib.hid (HI24.out.below hbel); have HB26 : Hid (Below w.heap.size w w26) := Lib.hid (HB25.out.trans (hbel.mono HB25.out.size)); clear hbel hri)
            | (go_at_call 25; (have mk := HB24); (with_reducible refine (KC.out _ HB24.out).mono ?_); rintro _ w25 ⟨r3, r4, rfl, hri, hbel⟩; have HI24 := Lib.hid hri; have HB25 : Hid (Below w.heap.size w w25) := Lib.hid (HB24.out.trans (hbel.mono HB24.out.size)); clear hbel hri)
            | (go_at_call 41; (have mk := HI23); (with_reducible refine (KI2.out _ _ _ _ _ HI23.out (qr_ints HQB9.out)).mono ?_); rintro _ w24 ⟨rfl, hbel⟩; have HB24 : Hid (Below w.heap.size w w24) := Lib.hid (HB23.out.trans (hbel.mono HB23.out.size)); clear hbel)
            | (go_at_call 18; (with_reducible refine (KLE.out _ HB22.out).mono ?_); rintro _ w23 ⟨r5, r6, rfl, hri, hbel⟩; have HI23 := Lib.hid hri; have HQB9 := Lib.hid (HQB8.out.below hbel); have HB23 : Hid (Below w.heap.size w w23) := Lib.hid (HB22.out.trans (hbel.mono HB22.out.size)); clear hbel hri)
            | (go_at_call 41; (have mk := HI21); (with_reducible refine (KI1.out _ _ _ _ _ HI21.out (qr_ints HQA8.out)).mono ?_); rintro _ w22 ⟨rfl, hbel⟩; have HQB8 := Lib.hid (HQB7b.out.below hbel); have HB22 : Hid (Below w.heap.size w w22) := Lib.hid (HB21.out.trans (hbel.mono HB21.out.size)); clear hbel)
            | (go_at_call 20; (with_reducible refine (KID.out _ HB20.out).mono ?_); rintro _ w21 ⟨r7, r8, rfl, hri, hbel⟩; have HI21 := Lib.hid hri; have HQA8 := Lib.hid (HQA7.out.below hbel); have HQB7b := Lib.hid (HQB7.out.below hbel); have HB21 : Hid (Below w.heap.size w w21) := Lib.hid (HB20.out.trans (hbel.mono HB20.out.size)); clear hbel hri)
            | (refine wpList_var_new rfl rfl 31 #[.int .i64 0, .int .i64 0, .bool false, .int .u64 0, .int .u64 0, .int .u64 0, .int .u64 0, .int .u64 0, .int .u64 0, .int .u64 0, .int .u64 0, .int .u64 0, .int .i64 0, .int .i64 0] ALL.out rfl _ _ rfl #[.int .i64 0, .int .i64 0, .bool false, .int .u64 0, .int .u64 0, .int .u64 0, .int .u64 0, .int .u64 0, .int .u64 0, .int .u64 0, .int .u64 0, .int .u64 0, .int .i64 0, .int .i64 0] rfl rfl INF.out rfl (ONE.out clz) ?_; (have mk := HB19); intro w20 hs20 hb20 hv20; have HB20 : Hid (Below w.heap.size w w20) := Lib.hid (HB19.out.trans (hb20.mono HB19.out.size)); have HQA7 := Lib.hid (HQA6b.out.below hb20); have HQB7 := Lib.hid (HQB6b.out.below hb20); clear hb20 hv20)
            | (go_at_call 21; (with_reducible refine (KG0.out _ HB16.out).mono ?_); rintro _ w19 ⟨rfl, hbel⟩; have HB19 : Hid (Below w.heap.size w w19) := Lib.hid (HB16.out.trans (hbel.mono HB16.out.size)); have HQA6b := Lib.hid (HQA6.out.below hbel); have HQB6b := Lib.hid (HQB6.out.below hbel); clear hbel))
          go_ret
          exact ⟨rfl, HB27.out⟩
end Go.Proofs.Ytlenmhbhakeonaa
