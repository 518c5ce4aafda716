/- What waits. -/
import Derived.Test.YtlenmhbhakeonaaAu5
import Derived.Test.YtlenmhbhakeonaaAppR
namespace Go.Proofs.Ytlenmhbhakeonaa
set_option linter.unusedVariables false
set_option linter.unusedSimpArgs false
set_option maxRecDepth 100000
open Go.RowKit Fg Reg
attribute [local irreducible] Reg.wE QR

theorem QR.rwv {z : World} {B : Nat} {v : Value} {L : List Pk} {bk : Option Nat} (h : QR z B 6 v L.length (L.flatMap Pk.cells) bk) : ∃ ao cap, v = .slice ao L.length cap ∧ RwV Pk.cells 6 z ao L := by
  unfold QR at h
  obtain ⟨h0, ⟨h1, h2, _⟩ | ⟨b, o, cap, h1, h2, h3, h4, h5, h6, h7, h8⟩⟩ := h
  · have : L = [] := List.length_eq_zero_iff.1 h2
    subst this
    exact ⟨Option.none, 0, h1, RwV.nil _ _⟩
  · refine ⟨_, cap, h2, fun k hk => ⟨b, o, rfl, h6, fun j x hj => ?_⟩⟩
    have hj6 : j < 6 := by have := (List.getElem?_eq_some_iff.1 hj).1; rwa [pkC.len] at this
    have := h8 (k * 6 + j) x (by rw [flat_get pkC L k j hk hj6]; exact hj)
    rwa [← Nat.add_assoc] at this
theorem wpList_append_qr {P : Program} {w : World} {ops : Array Oper} {rest : List Oper} {o : Oper} {a : Act} {Q : Exit → Act → World → Prop} (hgd : o.guard = none) (s x : Operand) (t : TypeId)
    (ho : o.op = .call { callee := .builtin .append, args := #[s, x], argTypes := #[t, t] })
    (B sz : Nat) (e : TypeId) (i : TypeInfo) (z : Value) (bytes : Nat) (ht : P.underlying t = some (.slice e)) (hi : P.info? e = some i) (hz : i.zero = some z)
    (hsize : i.size = sz) (hby : i.bytes = bytes) (hzs : z.cells.size = sz) (hsz : 0 < sz) (v : Value) (m : Nat) (xs : List Value) (bk : Option Nat) (hs : a.eval s = v) (hq : QR w B sz v m xs bk)
    (ad : Addr) (c : Nat) (us : List Value) (hx : a.eval x = .slice (some ad) 1 c) (hul : us.length = sz) (hu : ∀ j u, us[j]? = some u → w.cell? (ad.add j) = some u) (h1 : ∀ u ∈ us, u.oneCell' = true) (h63 : m + 1 ≤ maxLen) (hbytes : (m + 1) * bytes ≤ 140737488355328) (hB : B ≤ w.heap.size)
    (h : ∀ v' w' b', QR w' B sz v' (m + 1) (xs ++ us) (some b') → Only (fun k => bk = some k) w w' → (bk = some b' ∨ w.heap.size ≤ b') → wpList P ops Q rest (a.put o.dst v') w') : wpList P ops Q (o :: rest) a w :=
  wpList_plain hgd fun _ hK => by
    obtain ⟨v', w', b', hr, h2, h3, h4⟩ := run_append_qr (P := P) w B sz t o.type e i z bytes ht hi hz hsize hby hzs hsz v m xs bk hq ad c us hul hu h1 h63 hbytes hB
    unfold Oper.wp execOp
    simp only [ho, resolve, invoke, builtin, Sem.run_bind, Sem.run_pure, Result.andThen_ok, List.map_toArray, List.map_cons, List.map_nil, hs, hx, hr]
    exact hK _ _ (h v' w' b' h2 h3 h4)
theorem w_other {W : Int → List Pk} {e : Ev} {c : Int} (h : e.cls ≠ c) : wlearn W e c = W c := by
  unfold wlearn; rw [if_neg (fun g => h g.symm)]
theorem w_cong {W V : Int → List Pk} {e : Ev} {c : Int} (h : W c = V c) : wlearn W e c = wlearn V e c := by
  unfold wlearn; rw [h]
theorem w_len : ∀ (L : List Ev) (c : Int), (wOf L c).length ≤ L.length := by
  have go : ∀ (L : List Ev) (W : Int → List Pk) (m : Nat), (∀ c, (W c).length ≤ m) → ∀ c, (L.foldl wlearn W c).length ≤ m + L.length := by
    intro L
    induction L with
    | nil => intro W m h c; exact h c
    | cons e L ih =>
      intro W m h c
      have := ih (wlearn W e) (m + 1) (wlen W e h) c
      rw [List.foldl_cons, List.length_cons]
      omega
  intro L c
  have := go L (fun _ => []) 0 (fun _ => by simp) c
  unfold wOf; omega
set_option maxHeartbeats 8000000 in
theorem wait_c (l : List Ev) (n : Nat) (hln : l.length = n) (hn : n ≤ 500) (cl : Int) (hcl : iok cl) (ad : Option Addr) (cap : Nat) (w : World) (hE : EvsV w ad l) :
    Calls Try.prog 49 #[.slice ad n cap, .int .i64 cl] w fun e w' => (∃ ao c, e = .returned (.slice ao (wOf l cl).length c) ∧ RwV Pk.cells 6 w' ao (wOf l cl)) ∧ Below w.heap.size w w' := by
  have EI := Lib.hid ev_info
  have HE := Lib.hid hE
  have HLN := Lib.hid hln
  have HCL := Lib.hid hcl
  have hmm := @run_makeMap Try.prog
  have hma := Mp.made (κ := Int) ikv (fun v : Value => v) iok w
  have HMW : Hid (MW (w.alloc (.map #[] 0)) w.heap.size (w.heap.size + 1) (fun _ => none) (fun _ => []) (fun _ => none)) := Lib.hid ⟨⟨0, hma⟩, by omega, fun c => QR.nil _ _ _, fun c c' b _ h => by cases h⟩
  obtain ⟨m, hm⟩ : ∃ m, (wOf l cl).length = m := ⟨_, rfl⟩
  rw [hm]
  have HMM := Lib.hid hm
  clear hE hln hcl hma hm
  go_enter Try.func49, Try.ntmps49
  go_wp2
  go_loopg [11] n (fun k9 s11 wr => ∃ (i : Nat) (f : Int → Option Value) (W : Int → List Pk) (bk : Int → Option Nat), s11 = .int .i64 i ∧ i ≤ n ∧ n - i ≤ k9 ∧ W cl = wOf (l.take i) cl ∧ (∀ c, (W c).length ≤ i) ∧ MW wr w.heap.size (w.heap.size + 1) f W bk ∧ w.heap.size + 1 ≤ wr.heap.size ∧ Below w.heap.size w wr)
  case atStart => exact ⟨0, _, _, _, rfl, by omega, by omega, rfl, fun c => by simp [wOf], HMW.out, by simp, by (repeat' (first | assumption | exact Below.refl _ _ | refine Below.setCell ?_ (by first | (simp; done) | omega | (simp; omega)) _ | refine Below.alloc ?_ (by first | (simp; done) | omega | (simp; omega)) _ | refine Below.drew ?_ | refine below_drewN ?_ _))⟩
  case round =>
    obtain ⟨i, f, W, bk, rfl, hi, hk, hW, hWl, hM, hsz, hbl⟩ := hrel
    have HM := Lib.hid hM
    have HBL := Lib.hid hbl
    by_cases hin : i < n
    · have hil : i < l.length := by rw [HLN.out]; exact hin
      obtain ⟨eb, eo, had, heb, hr⟩ := (HE.out.below hbl) i hil
      subst had
      have W4 : IntKind.i64.wrap ((i : Int) + 1) = ((i + 1 : Nat) : Int) := by rw [IntKind.wrap_i64]; omega
      have e9 : l[i] = evn l i := by unfold evn; rw [List.getD_eq_getElem?_getD, List.getElem?_eq_getElem hil]; rfl
      rw [e9] at hr
      have hnw := w_next hil
      obtain ⟨e, he⟩ : ∃ e, evn l i = e := ⟨_, rfl⟩
      rw [he] at hr hnw
      by_cases hc : e.cls = cl
      · have hcb : (e.cls == cl) = true := by simpa using hc
        have hic : iok e.cls := by rw [hc]; exact HCL.out
        have KW := Lib.hid (fun z (h : MW z w.heap.size (w.heap.size + 1) f W bk) hB => wlearn_c e h hic hB (by have := hWl e.cls; omega))
        have HNX : Hid (wlearn W e cl = wOf (l.take (i + 1)) cl ∧ ∀ c, (wlearn W e c).length ≤ i + 1) := Lib.hid ⟨by rw [hnw]; exact w_cong hW, wlen W e hWl⟩
        clear hc hic hW hWl hnw he e9
        go_wp2_with (first | (refine wpList_load_mid rfl 96 _ rfl eb (eo + i * 12) rfl _ _ hr Try.underlying96 rfl EI.out ?_) | (refine wpList_store_new rfl 96 _ _ rfl _ #[.int .i64 (e).op, .bool (e).inn, .bool (e).real, .int .u64 (e).tm, .int .u64 (e).dn, .int .i64 (e).cls, .int .u64 (e).id, .int .i64 (e).ln, .int .u16 (e).a, .int .u16 (e).b, .int .u16 (e).c, .int .u16 (e).d] rfl rfl EI.out rfl (all_oneCell_toArray e.one) ?_))
        go_wp2_with (first | go_guarded | (go_at_call 85; (with_reducible refine (KW.out _ (HM.out.below (by (repeat' (first | assumption | exact Below.refl _ _ | refine Below.setCell ?_ (by first | (simp; done) | omega | (simp; omega)) _ | refine Below.alloc ?_ (by first | (simp; done) | omega | (simp; omega)) _ | refine Below.drew ?_ | refine below_drewN ?_ _)))) (by simp; omega)).mono ?_); rintro _ w5 ⟨rfl, f', bk', hM', hO'⟩; have HM' := Lib.hid hM'; have HO' := Lib.hid hO'; clear hM' hO'))
        go_roundg (n - (i + 1))
        case rel =>
          have hb1 : Below w.heap.size w (wr.alloc (.cells #[.int .i64 (e).op, .bool (e).inn, .bool (e).real, .int .u64 (e).tm, .int .u64 (e).dn, .int .i64 (e).cls, .int .u64 (e).id, .int .i64 (e).ln, .int .u16 (e).a, .int .u16 (e).b, .int .u16 (e).c, .int .u16 (e).d] 96)) := by have hb := HBL.out; (repeat' (first | assumption | exact Below.refl _ _ | refine Below.setCell ?_ (by first | (simp; done) | omega | (simp; omega)) _ | refine Below.alloc ?_ (by first | (simp; done) | omega | (simp; omega)) _ | refine Below.drew ?_ | refine below_drewN ?_ _))
          refine ⟨i + 1, f', _, bk', by first | rfl | go_num | (congr 1; omega), by omega, Nat.le_refl _, HNX.out.1, HNX.out.2, HM'.out, Nat.le_trans (by simp; omega) HO'.out.size, hb1.trans (onlyB HO'.out (by simp; omega) fun k hk => ?_)⟩
          rcases hk with g | g
          · omega
          · have := ((HM.out.rows _).lt k g).1; omega
        case measure => omega
      · have hcb : (e.cls == cl) = false := by simpa using hc
        have HNX : Hid (W cl = wOf (l.take (i + 1)) cl ∧ ∀ c, (W c).length ≤ i + 1) := Lib.hid ⟨by rw [hnw, w_other hc]; exact hW, fun c => Nat.le_succ_of_le (hWl c)⟩
        clear hc hW hWl hnw he e9
        go_wp2_with (first | (refine wpList_load_mid rfl 96 _ rfl eb (eo + i * 12) rfl _ _ hr Try.underlying96 rfl EI.out ?_) | (refine wpList_store_new rfl 96 _ _ rfl _ #[.int .i64 (e).op, .bool (e).inn, .bool (e).real, .int .u64 (e).tm, .int .u64 (e).dn, .int .i64 (e).cls, .int .u64 (e).id, .int .i64 (e).ln, .int .u16 (e).a, .int .u16 (e).b, .int .u16 (e).c, .int .u16 (e).d] rfl rfl EI.out rfl (all_oneCell_toArray e.one) ?_))
        go_wp2_with (first | go_guarded)
        go_roundg (n - (i + 1))
        case rel =>
          have hb1 : Below w.heap.size w (wr.alloc (.cells #[.int .i64 (e).op, .bool (e).inn, .bool (e).real, .int .u64 (e).tm, .int .u64 (e).dn, .int .i64 (e).cls, .int .u64 (e).id, .int .i64 (e).ln, .int .u16 (e).a, .int .u16 (e).b, .int .u16 (e).c, .int .u16 (e).d] 96)) := by have hb := HBL.out; (repeat' (first | assumption | exact Below.refl _ _ | refine Below.setCell ?_ (by first | (simp; done) | omega | (simp; omega)) _ | refine Below.alloc ?_ (by first | (simp; done) | omega | (simp; omega)) _ | refine Below.drew ?_ | refine below_drewN ?_ _))
          exact ⟨i + 1, f, _, bk, by first | rfl | go_num | (congr 1; omega), by omega, Nat.le_refl _, HNX.out.1, HNX.out.2, HM.out.below (by (repeat' (first | assumption | exact Below.refl _ _ | refine Below.setCell ?_ (by first | (simp; done) | omega | (simp; omega)) _ | refine Below.alloc ?_ (by first | (simp; done) | omega | (simp; omega)) _ | refine Below.drew ?_ | refine below_drewN ?_ _))), by simp; omega, hb1⟩
        case measure => omega
    · have hie : i = n := by omega
      subst hie
      have hl := hM.look HCL.out
      have hrow := hM.rows cl
      rw [hW, List.take_of_length_le (by rw [HLN.out]; exact Nat.le_refl _)] at hrow
      obtain ⟨ao, c, hv, hR⟩ := hrow.rwv
      rw [hv] at hl
      have HR := Lib.hid hR
      rw [HMM.out] at hl
      clear hrow hv hR hM hin hW hWl
      go_wp2
      go_ret
      exact ⟨⟨ao, c, rfl, HR.out⟩, hbl⟩
theorem pkR_cells {w : World} {ad : Option Addr} {L : List Pk} (h : RwV Pk.cells 6 w ad L) {i : Nat} (hi : i < L.length) : ∃ b o P, ad = some ⟨b, o, none⟩ ∧ P = L[i] ∧ (w.cell? ⟨b, (o + i * 6), none⟩ = some (.int .u64 (P).i) ∧ w.cell? ⟨b, (o + i * 6) + 1, none⟩ = some (.int .i64 (P).n) ∧ w.cell? ⟨b, (o + i * 6) + 2, none⟩ = some (.int .u16 (P).a) ∧ w.cell? ⟨b, (o + i * 6) + 3, none⟩ = some (.int .u16 (P).b) ∧ w.cell? ⟨b, (o + i * 6) + 4, none⟩ = some (.int .u16 (P).c) ∧ w.cell? ⟨b, (o + i * 6) + 5, none⟩ = some (.int .u16 (P).d) ∧ b < w.heap.size) := by
  obtain ⟨b, o, h1, h2, h3⟩ := h i hi
  exact ⟨b, o, L[i], h1, rfl, h3 0 _ rfl, h3 1 _ rfl, h3 2 _ rfl, h3 3 _ rfl, h3 4 _ rfl, h3 5 _ rfl, h2⟩
set_option maxHeartbeats 4000000 in
theorem same_c (L : List Pk) (n : Nat) (hln : L.length = n) (hn : n ≤ 1000) (a1 a2 : Option Addr) (c1 c2 : Nat) (w : World) (h1 : RwV Pk.cells 6 w a1 L) (h2 : RwV Pk.cells 6 w a2 L) :
    Calls Try.prog 48 #[.slice a1 n c1, .slice a2 n c2] w fun ee w' => ee = .returned (.bool true) ∧ Below w.heap.size w w' := by
  have H1 := Lib.hid h1
  have H2 := Lib.hid h2
  have HLN := Lib.hid hln
  clear h1 h2 hln
  go_enter Try.func48, Try.ntmps48
  go_wp2
  go_loopg [14] n (fun k9 s14 wr => ∃ (i : Nat), s14 = .int .i64 i ∧ i ≤ n ∧ n - i ≤ k9 ∧ Below w.heap.size w wr)
  case atStart => exact ⟨0, rfl, by omega, by omega, Below.refl _ _⟩
  case round =>
    obtain ⟨i, rfl, hi, hk, hB⟩ := hrel
    have HB := Lib.hid hB
    have hsz := hB.size
    by_cases hin : i < n
    · have hil : i < L.length := by rw [HLN.out]; exact hin
      obtain ⟨b, o, P, had, hP, p0, p1, p2, p3, p4, p5, pl⟩ := pkR_cells (H1.out.below hB) hil
      obtain ⟨b2, o2, Q, had2, hQ, q0, q1, q2, q3, q4, q5, ql⟩ := pkR_cells (H2.out.below hB) hil
      have hPQ : Q = P := by rw [hQ, hP]
      subst had had2 hPQ
      have W4 : IntKind.i64.wrap ((i : Int) + 1) = ((i + 1 : Nat) : Int) := by rw [IntKind.wrap_i64]; omega
      have HEQ := eq_pk Q Q
      rw [show decide (Q = Q) = true by simp] at HEQ
      clear hP hQ hB
      go_wp2
      go_quiet (fail)
      go_wp2
      go_roundg (n - (i + 1))
      case rel =>
        refine ⟨i + 1, by first | rfl | go_num | (congr 1; omega), by omega, Nat.le_refl _, ?_⟩
        have hB := HB.out
        (repeat' (first | assumption | exact Below.refl _ _ | refine Below.setCell ?_ (by first | (simp; done) | omega | (simp; omega)) _ | refine Below.alloc ?_ (by first | (simp; done) | omega | (simp; omega)) _ | refine Below.drew ?_ | refine below_drewN ?_ _))
      case measure => omega
    · have hie : i = n := by omega
      subst hie
      go_wp2
      go_ret
      exact ⟨rfl, hB⟩
end Go.Proofs.Ytlenmhbhakeonaa
