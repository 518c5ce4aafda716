/- A row of calls; one call. -/
import Derived.Test.YtlenmhbhakeonaaHi18
namespace Go.Proofs.Ytlenmhbhakeonaa
set_option linter.unusedVariables false
set_option linter.unusedSimpArgs false
set_option maxRecDepth 100000
open Go.RowKit Fg Reg Go.Maps
attribute [local irreducible] Reg.wE VR

structure HA where
  k : Int
  c : Cls
instance : Inhabited HA := ⟨⟨0, clz⟩⟩
def HA.cells (a : HA) : List Value := [.int .i64 a.k, .int .i64 a.c.id, .int .i64 a.c.par, .bool a.c.leaf, .int .u64 a.c.ra, .int .u64 a.c.rb, .int .u64 a.c.rc, .int .u64 a.c.la, .int .u64 a.c.lb, .int .u64 a.c.lc, .int .u64 a.c.ua, .int .u64 a.c.ub, .int .u64 a.c.uc, .int .i64 a.c.pk, .int .i64 a.c.bt]
theorem acts_of {w : World} {v : Value} (h : Op.FlatSlice w 15 [.int .i64, .int .i64, .int .i64, .bool, .int .u64, .int .u64, .int .u64, .int .u64, .int .u64, .int .u64, .int .u64, .int .u64, .int .u64, .int .i64, .int .i64] v) :
    ∃ a es cap, v = .slice a es.length cap ∧ es.length ≤ cap ∧ cap ≤ maxLen ∧ RwV HA.cells 15 w a es ∧ ∀ k (h : k < es.length), CIn es[k].c := by
  rcases h with h | ⟨a, cap, h, hc⟩ | ⟨b, o, n, cap, css, h0, rfl, h3, h4, hlt, hn, hi⟩
  · exact ⟨none, [], 0, h, Nat.le_refl _, Nat.zero_le _, fun k h => absurd h (Nat.not_lt_zero _), fun k h => absurd h (Nat.not_lt_zero _)⟩
  · exact ⟨some a, [], cap, h, Nat.zero_le _, hc, fun k h => absurd h (Nat.not_lt_zero _), fun k h => absurd h (Nat.not_lt_zero _)⟩
  · have h1 : ∀ i, i < n → ∃ e : HA, w.rangeAt b (o + i * 15) e.cells ∧ CIn e.c := fun i hin => by
      obtain ⟨hf, he⟩ := hi i (by omega)
      obtain ⟨_, _, e0, ⟨x0, rfl, w0⟩, _, _, rfl, ⟨x1, rfl, w1⟩, _, _, rfl, ⟨x2, rfl, w2⟩, _, _, rfl, ⟨x3, rfl⟩, _, _, rfl, ⟨x4, rfl, w4⟩, _, _, rfl, ⟨x5, rfl, w5⟩, _, _, rfl, ⟨x6, rfl, w6⟩, _, _, rfl, ⟨x7, rfl, w7⟩, _, _, rfl, ⟨x8, rfl, w8⟩, _, _, rfl, ⟨x9, rfl, w9⟩, _, _, rfl, ⟨x10, rfl, w10⟩, _, _, rfl, ⟨x11, rfl, w11⟩, _, _, rfl, ⟨x12, rfl, w12⟩, _, _, rfl, ⟨x13, rfl, w13⟩, _, _, rfl, ⟨x14, rfl, w14⟩, rfl⟩ := hf
      rw [e0] at he
      have bu := fun {x : Int} (h : (Lit.int .u64 x).wf = true) => (show In x from ⟨(bounds_u64 h).1, by have := (bounds_u64 h).2; omega⟩)
      exact ⟨⟨x0, x1, x2, x3, x4, x5, x6, x7, x8, x9, x10, x11, x12, x13, x14⟩, fun j x hx => he j x hx, ⟨w1, w2, bu w4, bu w5, bu w6, bu w7, bu w8, bu w9, bu w10, bu w11, bu w12, w13, w14⟩⟩
    obtain ⟨es, hes⟩ := Go.Deep.choose_lt h1
    refine ⟨some ⟨b, o, none⟩, (List.range n).map es, cap, by simp, by simpa using h3, h4, fun k hk => ?_, fun k hk => ?_⟩
    · have := hes k (by simpa using hk)
      exact ⟨b, o, rfl, hlt, by simpa using this.1⟩
    · have := hes k (by simpa using hk)
      simpa using this.2
def doE (k : Int) (f : Int → Option Cls) (L : List Int) (c : Cls) : Int := if k = 0 then addE f L c else if k = 1 then delE f L c.id else setE f L c
def doF (k : Int) (f : Int → Option Cls) (L : List Int) (c : Cls) : Int → Option Cls := if k = 0 then addF f L c else if k = 1 then delF f L c.id else setF f L c
def doL (k : Int) (f : Int → Option Cls) (L : List Int) (c : Cls) : List Int := if k = 0 then addL f L c else if k = 1 then delL f L c.id else L
theorem TI.doF {f : Int → Option Cls} {L : List Int} (I : TI f L) (k : Int) {c : Cls} (hi : CIn c) : TI (doF k f L c) (doL k f L c) := by
  unfold Go.Proofs.Ytlenmhbhakeonaa.doF Go.Proofs.Ytlenmhbhakeonaa.doL
  by_cases h0 : k = 0
  · rw [if_pos h0, if_pos h0]; exact I.addF hi
  · rw [if_neg h0, if_neg h0]
    by_cases h1 : k = 1
    · rw [if_pos h1, if_pos h1]; exact I.delF c.id
    · rw [if_neg h1, if_neg h1]; exact I.setF hi
theorem ac_part {z : World} {p : Nat} {k : Int} {c : Cls} (h : VR z p 33 #[.int .i64 (k), .int .i64 (c).id, .int .i64 (c).par, .bool (c).leaf, .int .u64 (c).ra, .int .u64 (c).rb, .int .u64 (c).rc, .int .u64 (c).la, .int .u64 (c).lb, .int .u64 (c).lc, .int .u64 (c).ua, .int .u64 (c).ub, .int .u64 (c).uc, .int .i64 (c).pk, .int .i64 (c).bt]) : z.rangeAt p 1 (#[.int .i64 (c).id, .int .i64 (c).par, .bool (c).leaf, .int .u64 (c).ra, .int .u64 (c).rb, .int .u64 (c).rc, .int .u64 (c).la, .int .u64 (c).lb, .int .u64 (c).lc, .int .u64 (c).ua, .int .u64 (c).ub, .int .u64 (c).uc, .int .i64 (c).pk, .int .i64 (c).bt] : Array Value).toList := h.part 1 _ (fun j v hv => by
  (rcases j with _ | _ | _ | _ | _ | _ | _ | _ | _ | _ | _ | _ | _ | _ | j) <;> first | exact hv | (simp at hv))
theorem ac_info : (Try.prog.info? 33).map (·.size) = some 15 := by kernel_rfl
theorem aca_one (k : Int) (c : Cls) : (#[.int .i64 (k), .int .i64 (c).id, .int .i64 (c).par, .bool (c).leaf, .int .u64 (c).ra, .int .u64 (c).rb, .int .u64 (c).rc, .int .u64 (c).la, .int .u64 (c).lb, .int .u64 (c).lc, .int .u64 (c).ua, .int .u64 (c).ub, .int .u64 (c).uc, .int .i64 (c).pk, .int .i64 (c).bt] : Array Value).all (·.oneCell') = true := by kernel_rfl
theorem ac_alloc (w : World) : (Instr.alloc 33 true (.tuple #[])).run Try.prog w = .ok (.pointer (some ⟨w.heap.size, 0, none⟩)) (w.alloc (.cells #[.int .i64 0, .int .i64 0, .int .i64 0, .bool false, .int .u64 0, .int .u64 0, .int .u64 0, .int .u64 0, .int .u64 0, .int .u64 0, .int .u64 0, .int .u64 0, .int .u64 0, .int .i64 0, .int .i64 0] 33)) := by kernel_rfl
set_option maxHeartbeats 4000000 in
theorem done_c {w : World} {tb mb : Nat} {f : Int → Option Cls} {L : List Int} (h : HT w tb mb f) (I : TI f L) (k : Int) {c : Cls} (hi : CIn c) :
    Calls Try.prog 15 #[.pointer (some ⟨tb, 0, none⟩), .agg #[.int .i64 (k), .int .i64 (c).id, .int .i64 (c).par, .bool (c).leaf, .int .u64 (c).ra, .int .u64 (c).rb, .int .u64 (c).rc, .int .u64 (c).la, .int .u64 (c).lb, .int .u64 (c).lc, .int .u64 (c).ua, .int .u64 (c).ub, .int .u64 (c).uc, .int .i64 (c).pk, .int .i64 (c).bt]] w fun e w' => e = .returned (.int .i64 (doE k f L c)) ∧ HT w' tb mb (doF k f L c) ∧ Only (fun k => k = mb) w w' := by
  have hW0 : VR (w.alloc (.cells #[.int .i64 (k), .int .i64 (c).id, .int .i64 (c).par, .bool (c).leaf, .int .u64 (c).ra, .int .u64 (c).rb, .int .u64 (c).rc, .int .u64 (c).la, .int .u64 (c).lb, .int .u64 (c).lc, .int .u64 (c).ua, .int .u64 (c).ub, .int .u64 (c).uc, .int .i64 (c).pk, .int .i64 (c).bt] 33)) w.heap.size 33 #[.int .i64 (k), .int .i64 (c).id, .int .i64 (c).par, .bool (c).leaf, .int .u64 (c).ra, .int .u64 (c).rb, .int .u64 (c).rc, .int .u64 (c).la, .int .u64 (c).lb, .int .u64 (c).lc, .int .u64 (c).ua, .int .u64 (c).ub, .int .u64 (c).uc, .int .i64 (c).pk, .int .i64 (c).bt] := VR.new _ _ _
  have hB0 : Below w.heap.size w (w.alloc (.cells #[.int .i64 (k), .int .i64 (c).id, .int .i64 (c).par, .bool (c).leaf, .int .u64 (c).ra, .int .u64 (c).rb, .int .u64 (c).rc, .int .u64 (c).la, .int .u64 (c).lb, .int .u64 (c).lc, .int .u64 (c).ua, .int .u64 (c).ub, .int .u64 (c).uc, .int .i64 (c).pk, .int .i64 (c).bt] 33)) := by (repeat' (first | assumption | exact Below.refl _ _ | refine Below.setCell ?_ (by first | (simp; done) | omega | (simp; omega)) _ | refine Below.alloc ?_ (by first | (simp; done) | omega | (simp; omega)) _ | refine Below.drew ?_ | refine below_drewN ?_ _))
  have hT0 := h.below hB0
  have HP := Lib.hid (ac_part hW0)
  have a0 := hW0.cell 0 rfl
  have a1 := hW0.cell 1 rfl
  have HB0 := Lib.hid hB0
  have INF := Lib.hid cl_info
  by_cases h0 : k = 0
  · subst h0
    have e1 : doE 0 f L c = addE f L c := rfl
    have e2 : doF 0 f L c = addF f L c := rfl
    rw [e1, e2]
    have K := Lib.hid (hadd_c hT0 I hi)
    clear h hT0 I hi hW0 hB0 e1 e2
    go_enter Try.func15, Try.ntmps15
    go_wp2_with (first
      | go_guarded
      | (refine wpList_part_get rfl 31 _ rfl w.heap.size 1 #[.int .i64 (c).id, .int .i64 (c).par, .bool (c).leaf, .int .u64 (c).ra, .int .u64 (c).rb, .int .u64 (c).rc, .int .u64 (c).la, .int .u64 (c).lb, .int .u64 (c).lc, .int .u64 (c).ua, .int .u64 (c).ub, .int .u64 (c).uc, .int .i64 (c).pk, .int .i64 (c).bt] _ HP.out rfl Try.underlying31 rfl INF.out ?_)
      | (go_at_call 23; (with_reducible refine K.out.mono ?_); rintro _ w1 ⟨rfl, hT, hO⟩; have HT1 := Lib.hid hT; have HO1 := Lib.hid hO; clear hT hO))
    go_ret
    exact ⟨rfl, HT1.out, (Only.of_below HB0.out).trans HO1.out⟩
  · by_cases h1 : k = 1
    · subst h1
      have e1 : doE 1 f L c = delE f L c.id := rfl
      have e2 : doF 1 f L c = delF f L c.id := rfl
      rw [e1, e2]
      have K := Lib.hid (hdel_c hT0 I hi.id)
      clear h hT0 I hi hW0 hB0 e1 e2 h0
      go_enter Try.func15, Try.ntmps15
      go_wp2_with (first
        | go_guarded
        | (go_at_call 19; (with_reducible refine K.out.mono ?_); rintro _ w1 ⟨rfl, hT, hO⟩; have HT1 := Lib.hid hT; have HO1 := Lib.hid hO; clear hT hO))
      go_ret
      exact ⟨rfl, HT1.out, (Only.of_below HB0.out).trans HO1.out⟩
    · have e1 : doE k f L c = setE f L c := by unfold doE; rw [if_neg h0, if_neg h1]
      have e2 : doF k f L c = setF f L c := by unfold doF; rw [if_neg h0, if_neg h1]
      rw [e1, e2]
      have K := Lib.hid (hset_c hT0 I hi)
      have q0 : (k == 0) = false := by simpa using h0
      have q1 : (k == 1) = false := by simpa using h1
      clear h hT0 I hi hW0 hB0 e1 e2 h0 h1
      go_enter Try.func15, Try.ntmps15
      go_wp2_with (first
        | go_guarded
        | (refine wpList_part_get rfl 31 _ rfl w.heap.size 1 #[.int .i64 (c).id, .int .i64 (c).par, .bool (c).leaf, .int .u64 (c).ra, .int .u64 (c).rb, .int .u64 (c).rc, .int .u64 (c).la, .int .u64 (c).lb, .int .u64 (c).lc, .int .u64 (c).ua, .int .u64 (c).ub, .int .u64 (c).uc, .int .i64 (c).pk, .int .i64 (c).bt] _ HP.out rfl Try.underlying31 rfl INF.out ?_)
        | (go_at_call 24; (with_reducible refine K.out.mono ?_); rintro _ w1 ⟨rfl, hT, hO⟩; have HT1 := Lib.hid hT; have HO1 := Lib.hid hO; clear hT hO))
      go_ret
      exact ⟨rfl, HT1.out, (Only.of_below HB0.out).trans HO1.out⟩
/-- A curve held against none. -/
theorem eqCv0 (a b d : Int) (w : World) : (Op.equalIn 10000 29 (.agg #[.int .u64 a, .int .u64 b, .int .u64 d]) (.agg #[.int .u64 0, .int .u64 0, .int .u64 0])).run Try.prog w = .ok (decide (a = 0 ∧ b = 0 ∧ d = 0)) w := by
  have hz1 : ∀ w, (sizeOf 27).run Try.prog w = .ok 1 w := fun w => by kernel_rfl
  have ha1 : ∀ w, (isAgg 27).run Try.prog w = .ok false w := fun w => by kernel_rfl
  have u1 := Try.underlying27
  have hS : Try.prog.underlying 29 = some (.struct (Try.prog.fieldsOf 29)) := by kernel_rfl
  have hp : Try.prog.stoodInHeld 29 = false := by kernel_rfl
  rw [show (10000 : Nat) = 9999 + 1 from rfl, run_equalIn_agg w 9999 29 _ _ hS hp]
  simp only [Program.fieldsOf, Try.underlying29]
  by_cases g1 : a = 0
  · subst g1
    by_cases g2 : b = 0
    · subst g2
      by_cases g3 : d = 0
      · subst g3
        go_simp
      · have b3 : (d == 0) = false := by simpa using g3
        rw [show decide ((0 : Int) = 0 ∧ (0 : Int) = 0 ∧ d = 0) = false from decide_eq_false fun h => g3 h.2.2]
        clear g3
        go_simp
    · have b2 : (b == 0) = false := by simpa using g2
      rw [show decide ((0 : Int) = 0 ∧ b = 0 ∧ d = 0) = false from decide_eq_false fun h => g2 h.2.1]
      clear g2
      go_simp
  · have b1 : (a == 0) = false := by simpa using g1
    rw [show decide (a = 0 ∧ b = 0 ∧ d = 0) = false from decide_eq_false fun h => g1 h.1]
    clear g1
    go_simp
/-- Where going up ends. -/
theorem upl_last {f : Int → Option Cls} {L : List Int} (I : TI f L) : ∀ (n : Nat) (x : Int) (c : Cls), f x = some c → fin f n x = true → ∃ (m : Nat) (y : Int) (cl : Cls), (upl f n x).length = m + 1 ∧ (upl f n x)[0]? = some x ∧ (upl f n x)[m]? = some y ∧ f y = some cl ∧ cl.par = 0
  | 0, x, c, hc, h => by unfold fin at h; rw [hc] at h; cases h
  | n + 1, x, c, hc, h => by
    rw [fin_some hc] at h
    rw [upl_some hc]
    cases hp : f c.par with
    | none =>
      refine ⟨0, x, c, by rw [upl_none hp]; rfl, rfl, rfl, hc, Classical.byContradiction fun g => ?_⟩
      obtain ⟨p, h1, _⟩ := I.par x c hc g
      rw [hp] at h1
      cases h1
    | some p =>
      obtain ⟨m, y, cl, h1, h2, h3, h4, h5⟩ := upl_last I n c.par p hp h
      exact ⟨m + 1, y, cl, by rw [List.length_cons, h1], rfl, by rw [List.getElem?_cons_succ]; exact h3, h4, h5⟩
end Go.Proofs.Ytlenmhbhakeonaa
