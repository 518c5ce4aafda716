/- What the law keeps in memory. -/
import Derived.Test.YtnpidbodeebnkaaSl1
namespace Go.Proofs.Ytnpidbodeebnkaa
set_option linter.unusedVariables false
set_option linter.unusedSimpArgs false
set_option maxRecDepth 100000
open Go.RowKit Fg Reg Go.Maps
attribute [local irreducible] Reg.wN Reg.wE QR

theorem wpList_append_qr {P : Program} {ops : Array Oper} {rest : List Oper} {o : Oper} {a : Act} {w : World} {Q : Exit → Act → World → Prop} (hgd : o.guard = none) (s x : Operand) (t : TypeId)
    (ho : o.op = .call { callee := .builtin .append, args := #[s, x], argTypes := #[t, t] })
    (B : Nat) (e : TypeId) (i : TypeInfo) (z : Value) (size bytes : Nat) (ht : P.underlying t = some (.slice e)) (hi : P.info? e = some i) (hz : i.zero = some z)
    (hsize : i.size = size) (hby : i.bytes = bytes) (hzs : z.cells.size = size) (hsz : 0 < size)
    (v : Value) (n : Nat) (xs : List Value) (bk : Option Nat) (hs : a.eval s = v) (hq : QR w B size v n xs bk)
    (ad : Addr) (c : Nat) (news : List Value) (hx : a.eval x = .slice (some ad) 1 c) (hl : news.length = size) (hnews : ∀ j u, news[j]? = some u → w.cell? (ad.add j) = some u) (h1 : ∀ u ∈ news, u.oneCell' = true)
    (h63 : n + 1 ≤ maxLen) (hbytes : (n + 1) * bytes ≤ 140737488355328) (hB : B ≤ w.heap.size)
    (h : ∀ v' w' b', QR w' B size v' (n + 1) (xs ++ news) (some b') → Only (fun k => bk = some k) w w' → (bk = some b' ∨ w.heap.size ≤ b') → wpList P ops Q rest (a.put o.dst v') w') : wpList P ops Q (o :: rest) a w := by
  refine wpList_plain hgd fun _ hK => ?_
  obtain ⟨v', w', b', hr, h2, h3, h4⟩ := run_append_qr (P := P) w B size t o.type e i z bytes ht hi hz hsize hby hzs hsz v n xs bk hq ad c news hl hnews h1 h63 hbytes hB
  unfold Oper.wp execOp
  simp only [ho, resolve, invoke, builtin, Sem.run_bind, Sem.run_pure, Result.andThen_ok, List.map_toArray, List.map_cons, List.map_nil, hs, hx, hr]
  exact hK _ _ (h v' w' b' h2 h3 h4)
structure LW (z w : World) (B p mw mr : Nat) (f : Int → Option Value) (W : Int → List Int) (bk : Int → Option Nat) (R : Int → Option R5) (l : List PK) (ao : Option Addr) (n c : Nat) (rb : Option Nat) : Prop where
  sg : SG z B p mw mr f W bk R
  qr : QR z B 6 (.slice ao n c) n (l.flatMap PK.cells) rb
  nb : ∀ x b, bk x = some b → rb ≠ some b
  bel : Below w.heap.size w z
  ln : l.length = n
  wp : w.heap.size ≤ mw ∧ w.heap.size ≤ mr ∧ w.heap.size ≤ B
theorem LW.below {z w : World} {B p mw mr : Nat} {f : Int → Option Value} {W : Int → List Int} {bk : Int → Option Nat} {R : Int → Option R5} {l : List PK} {ao : Option Addr} {n c : Nat} {rb : Option Nat} {z' : World} (h : LW z w B p mw mr f W bk R l ao n c rb) (hb : Below z.heap.size z z') : LW z' w B p mw mr f W bk R l ao n c rb :=
  ⟨h.sg.below hb, h.qr.below hb, h.nb, h.bel.trans (hb.mono h.bel.size), h.ln, h.wp⟩
theorem LW.rw {z w : World} {B p mw mr : Nat} {f : Int → Option Value} {W : Int → List Int} {bk : Int → Option Nat} {R : Int → Option R5} {l : List PK} {ao : Option Addr} {n c : Nat} {rb : Option Nat} (h : LW z w B p mw mr f W bk R l ao n c rb) : RwV PK.cells 6 z ao l := fun k hk => by
  have hq := h.qr
  unfold QR at hq
  rcases hq.2 with ⟨_, h2, _⟩ | ⟨b, o, cap, _, h1, h2, _, _, hb, _, hx⟩
  · have := h.ln; omega
  · injection h1 with e1 e2 e3
    refine ⟨b, o, e1, hb, fun j v hv => ?_⟩
    have hj : j < 6 := by
      have h9 := (List.getElem?_eq_some_iff.1 hv).1
      rw [pkcC.1] at h9
      exact h9
    have h9 := hx (k * 6 + j) v (by rw [flat_get pkcC l k j hk hj]; exact hv)
    rw [← Nat.add_assoc] at h9
    exact h9
theorem LW.cap {z w : World} {B p mw mr : Nat} {f : Int → Option Value} {W : Int → List Int} {bk : Int → Option Nat} {R : Int → Option R5} {l : List PK} {ao : Option Addr} {n c : Nat} {rb : Option Nat} (h : LW z w B p mw mr f W bk R l ao n c rb) : n ≤ c := by
  have hq := h.qr
  unfold QR at hq
  rcases hq.2 with ⟨_, h2, _⟩ | ⟨b, o, cap, _, h1, h2, _⟩
  · omega
  · injection h1 with e1 e2 e3
    omega
theorem LW.bkl {z w : World} {B p mw mr : Nat} {f : Int → Option Value} {W : Int → List Int} {bk : Int → Option Nat} {R : Int → Option R5} {l : List PK} {ao : Option Addr} {n c : Nat} {rb : Option Nat} (h : LW z w B p mw mr f W bk R l ao n c rb) : ∀ x b, bk x = some b → B ≤ b ∧ b < z.heap.size := fun x b hb => (h.sg.rows x).lt b hb
theorem LW.came {z w : World} {B p mw mr : Nat} {f : Int → Option Value} {W : Int → List Int} {bk : Int → Option Nat} {R : Int → Option R5} {l : List PK} {ao : Option Addr} {n c : Nat} {rb : Option Nat} {z' : World} {cl ta : Int} {v : Value} {b' : Nat} (h : LW z w B p mw mr f W bk R l ao n c rb) (hs : SG z' B p mw mr (upd f cl v) (uw W cl (W cl ++ [ta])) (uw bk cl (some b')) R) (hb : bk cl = some b' ∨ z.heap.size ≤ b') (ho : Only (fun k => k = mw ∨ bk cl = some k) z z') : LW z' w B p mw mr (upd f cl v) (uw W cl (W cl ++ [ta])) (uw bk cl (some b')) R l ao n c rb := by
  have hrl := h.qr.lt
  have hltw := h.sg.ltw
  have hwp := h.wp
  refine ⟨hs, h.qr.only ho (fun b hb2 g => ?_), fun x b hx => ?_, h.bel.trans ⟨ho.1, ho.2, ho.3, ho.4, fun k hk => ho.5 k (Nat.lt_of_lt_of_le hk h.bel.size) (fun g => ?_)⟩, h.ln, h.wp⟩
  · rcases g with g | g
    · have := (hrl b hb2).1; omega
    · exact h.nb cl b g hb2
  · by_cases hc : x = cl
    · subst hc
      rw [uw_at] at hx
      cases hx
      rcases hb with g | g
      · exact h.nb x b' g
      · intro g2
        have := (hrl b' g2).2
        omega
    · rw [uw_ne _ _ hc] at hx
      exact h.nb x b hx
  · rcases g with g | g
    · omega
    · have := (h.bkl cl k g).1; omega
theorem LW.went {z w : World} {B p mw mr : Nat} {f : Int → Option Value} {W : Int → List Int} {bk : Int → Option Nat} {R : Int → Option R5} {l : List PK} {ao : Option Addr} {n c : Nat} {rb : Option Nat} {z' : World} {f' : Int → Option Value} {W' : Int → List Int} {R' : Int → Option R5} (h : LW z w B p mw mr f W bk R l ao n c rb) (hs : SG z' B p mw mr f' W' bk R') (ho : Only (fun k => k = mw ∨ k = mr) z z') : LW z' w B p mw mr f' W' bk R' l ao n c rb := by
  have hrl := h.qr.lt
  have hltw := h.sg.ltw
  have hltr := h.sg.ltr
  have hwp := h.wp
  refine ⟨hs, h.qr.only ho (fun b hb2 g => ?_), h.nb, h.bel.trans ⟨ho.1, ho.2, ho.3, ho.4, fun k hk => ho.5 k (Nat.lt_of_lt_of_le hk h.bel.size) (fun g => ?_)⟩, h.ln, h.wp⟩
  · have := (hrl b hb2).1
    rcases g with g | g <;> omega
  · rcases g with g | g <;> omega
theorem LW.app {z w : World} {B p mw mr : Nat} {f : Int → Option Value} {W : Int → List Int} {bk : Int → Option Nat} {R : Int → Option R5} {l : List PK} {ao : Option Addr} {n c : Nat} {rb : Option Nat} {z' : World} {q : PK} {ao2 : Option Addr} {c2 b9 : Nat} (h : LW z w B p mw mr f W bk R l ao n c rb) (hq : QR z' B 6 (.slice ao2 (n + 1) c2) (n + 1) (l.flatMap PK.cells ++ PK.cells q) (some b9)) (ho : Only (fun k => rb = some k) z z') (hb : rb = some b9 ∨ z.heap.size ≤ b9) : LW z' w B p mw mr f W bk R (l ++ [q]) ao2 (n + 1) c2 (some b9) := by
  have hrl := h.qr.lt
  have hltw := h.sg.ltw
  have hltr := h.sg.ltr
  have hltp := h.sg.ltp
  have hwp := h.wp
  refine ⟨h.sg.only ho (fun g => by have := (hrl _ g).1; omega) (fun g => by have := (hrl _ g).1; omega) (fun g => by have := (hrl _ g).1; omega) (fun x b hx g => h.nb x b hx g), by rw [List.flatMap_append, List.flatMap_singleton]; exact hq, fun x b hx g => ?_, h.bel.trans ⟨ho.1, ho.2, ho.3, ho.4, fun k hk => ho.5 k (Nat.lt_of_lt_of_le hk h.bel.size) (fun g => by have := (hrl _ g).1; omega)⟩, by rw [List.length_append, h.ln]; rfl, h.wp⟩
  cases g
  rcases hb with g | g
  · exact h.nb x _ hx g
  · have := (h.bkl x _ hx).2; omega
theorem QR.baseM {z : World} {B B2 s m : Nat} {v : Value} {xs : List Value} {bk : Option Nat} (h : QR z B2 s v m xs bk) (hB : B ≤ B2) : QR z B s v m xs bk := by
  unfold QR at *
  obtain ⟨h1, h2⟩ := h
  refine ⟨h1, h2.imp_right fun ⟨b, o, cap, e1, e2, e3, e4, e5, e6, e7⟩ => ⟨b, o, cap, e1, e2, e3, e4, Nat.le_trans hB e5, e6, e7⟩⟩
theorem LW.gone {z w : World} {B p mw mr : Nat} {f : Int → Option Value} {W : Int → List Int} {bk : Int → Option Nat} {R : Int → Option R5} {l : List PK} {ao : Option Addr} {n c : Nat} {rb : Option Nat} {z' : World} {l2 : List PK} {v : Value} (h : LW z w B p mw mr f W bk R l ao n c rb) (hn : 0 < n) (ho : z'.ownsRow z.heap.size 33 6 v n (l2.flatMap PK.cells)) (hl : l2.length = n) (hb : Below z.heap.size z z') : ∃ ao2 c2 b9, v = .slice ao2 n c2 ∧ LW z' w B p mw mr f W bk R l2 ao2 n c2 (some b9) := by
  obtain ⟨b9, hq⟩ := QR.of_own ho hn
  obtain ⟨ao2, c2, rfl⟩ := row_form ho
  have hB := h.sg.hB
  refine ⟨ao2, c2, b9, rfl, h.sg.below hb, hq.baseM hB, fun x b hx g => ?_, h.bel.trans (hb.mono h.bel.size), hl, h.wp⟩
  cases g
  have h1 := (hq.lt _ rfl).1
  have h2 := (h.bkl x _ hx).2
  omega
set_option maxHeartbeats 4000000 in
theorem row7_c (x : R5) (w : World) : Calls Try.prog 12 #[.agg #[.int .u64 (x).a, .int .u64 (x).b, .int .u64 (x).c, .int .u64 (x).d, .int .u64 (x).e]] w fun ee w' => ee = .returned (r5v x) ∧ Below w.heap.size w w' := by
  unfold r5v
  go_enter Try.func12, Try.ntmps12
  go_wp2
  refine bodyPost_ret (v := .agg #[.int .u64 (x).a, .int .u64 (x).b, .int .u64 (x).c, .int .u64 (x).d, .int .u64 (x).e]) (by simp [results, Try.results12, go_sem, *]) rfl ⟨rfl, (by repeat' (first | with_reducible exact Below.refl _ _ | with_reducible assumption | ((with_reducible refine Below.drew ?_)) | ((with_reducible refine below_drewN ?_ _)) | ((with_reducible refine Below.alloc ?_ ?_ _); rotate_left; focus (first | omega | (simp; done) | (simp; omega))) | ((with_reducible refine Below.setCell ?_ ?_ _); rotate_left; focus (first | omega | (simp; done) | (simp; omega))) | ((with_reducible refine Below.trans ?_ (Below.mono (by with_reducible assumption) ?_)); rotate_left; focus (first | omega | (simp; done) | (simp; omega)))))⟩
theorem eqR5S (x : R5) (w : World) : (Op.equalIn 10000 39 (.agg #[.int .u64 (x).a, .int .u64 (x).b, .int .u64 (x).c, .int .u64 (x).d, .int .u64 (x).e]) (.agg #[.int .u64 (x).a, .int .u64 (x).b, .int .u64 (x).c, .int .u64 (x).d, .int .u64 (x).e])).run Try.prog w = .ok true w := by
  have hz1 : ∀ w, (sizeOf 27).run Try.prog w = .ok 1 w := fun w => by kernel_rfl
  have ha1 : ∀ w, (isAgg 27).run Try.prog w = .ok false w := fun w => by kernel_rfl
  have u1 := Try.underlying27
  have hS : Try.prog.underlying 39 = some (.struct (Try.prog.fieldsOf 39)) := by kernel_rfl
  have hp : Try.prog.stoodInHeld 39 = false := by kernel_rfl
  rw [show (10000 : Nat) = 9999 + 1 from rfl, run_equalIn_agg w 9999 39 _ _ hS hp]
  simp only [Program.fieldsOf, Try.underlying39]
  go_simp
structure C7 where
  k : Int
  cl : Int
  ta : Int
  ln : Int
  rl : Bool
instance : Inhabited C7 := ⟨⟨0, 0, 0, 0, false⟩⟩
def C7.cells (a : C7) : List Value := [.int .i64 a.k, .int .i64 a.cl, .int .u64 a.ta, .int .i64 a.ln, .bool a.rl]
structure C7.wf (a : C7) : Prop where
  cl : iok a.cl
  t0 : 0 ≤ a.ta
  t1 : a.ta ≤ 18446744073709551615
  l1 : a.ln ≤ 9223372036854775807
theorem calls7_of {w : World} {v : Value} (h : Op.FlatSlice w 5 [.int .i64, .int .i64, .int .u64, .int .i64, .bool] v) :
    ∃ a es cap, v = .slice a es.length cap ∧ RwV C7.cells 5 w a es ∧ ∀ k (h : k < es.length), es[k].wf := by
  rcases h with h | ⟨a, cap, h, hc⟩ | ⟨b, o, n, cap, css, h0, rfl, h3, h4, hlt, hn, hi⟩
  · exact ⟨none, [], 0, h, RwV.nil _ _, fun k h => absurd h (Nat.not_lt_zero _)⟩
  · exact ⟨some a, [], cap, h, RwV.nil _ _, fun k h => absurd h (Nat.not_lt_zero _)⟩
  · have h1 : ∀ i, i < n → ∃ e : C7, w.rangeAt b (o + i * 5) e.cells ∧ e.wf := fun i hin => by
      obtain ⟨hf, he⟩ := hi i (by omega)
      obtain ⟨_, _, e0, ⟨x0, rfl, w0⟩, _, _, rfl, ⟨x1, rfl, w1⟩, _, _, rfl, ⟨x2, rfl, w2⟩, _, _, rfl, ⟨x3, rfl, w3⟩, _, _, rfl, ⟨x4, rfl⟩, rfl⟩ := hf
      rw [e0] at he
      have i2 := bounds_u64 w2
      have i3 := bounds_i64 w3
      exact ⟨⟨x0, x1, x2, x3, x4⟩, fun j x hx => he j x hx, ⟨w1, i2.1, by have := i2.2; omega, by have := i3.2; omega⟩⟩
    obtain ⟨es, hes⟩ := Go.Deep.choose_lt h1
    refine ⟨some ⟨b, o, none⟩, (List.range n).map es, cap, by simp, fun k hk => ?_, fun k hk => ?_⟩
    · have := hes k (by simpa using hk)
      exact ⟨b, o, rfl, hlt, by simpa using this.1⟩
    · have := hes k (by simpa using hk)
      simpa using this.2
theorem c7_all (w : World) : (Instr.alloc 29 true (.tuple #[])).run Try.prog w = .ok (.pointer (some ⟨w.heap.size, 0, none⟩)) (w.alloc (.cells #[.int .i64 0, .int .i64 0, .int .u64 0, .int .i64 0, .bool false] 29)) := by kernel_rfl
theorem c7_info : (Try.prog.info? 29).map (·.size) = some 5 := by kernel_rfl
theorem c7_one (a : C7) : (#[.int .i64 (a).k, .int .i64 (a).cl, .int .u64 (a).ta, .int .i64 (a).ln, .bool (a).rl] : Array Value).all (·.oneCell') = true := by kernel_rfl
end Go.Proofs.Ytnpidbodeebnkaa
