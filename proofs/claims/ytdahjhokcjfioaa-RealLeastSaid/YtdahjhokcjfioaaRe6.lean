/- story, what befalls a leaf in layer 20's laws. -/
import Derived.Test.YtdahjhokcjfioaaRe5
namespace Go.Proofs.Ytdahjhokcjfioaa
set_option linter.unusedVariables false
set_option linter.unusedSimpArgs false
set_option maxRecDepth 100000
open Go.RowKit Fg Reg
attribute [local irreducible] Reg.wE World.there World.rangeAt

def hdAt (ls : List Cl) (k : Nat) : Int := (ls.getD (k - 1) ⟨0, 0, 0, 0⟩).hd
theorem hdAt_succ (ls : List Cl) (k : Nat) (h : k < ls.length) : hdAt ls (k + 1) = ls[k].hd := by
  unfold hdAt
  simp [h]
theorem shrunk20 {G : World → Prop} {w : World} (F : World → Prop) (hF : F w) (h : ∀ n, F n → G n) : G w := h w hF
theorem wpList_store_new3 {P : Program} {ops : Array Oper} {rest : List Oper} {op : Oper} {a : Act} {w : World} {Q : Exit → Act → World → Prop} (hgd : op.guard = none) (ty : TypeId) (x y : Operand) (ho : op.op = .store ty x y)
    (c cells : Array Value) (b : Nat) (hb : b = w.heap.size) (hx : a.eval x = .pointer (some ⟨b, 0, none⟩)) (hy : a.eval y = .agg cells)
    (hi : (P.info? ty).map (·.size) = some cells.size) (hs : c.size = cells.size) (h1 : cells.all (·.oneCell') = true)
    (h : wpList P ops Q rest (a.put op.dst undef) (w.alloc (.cells cells ty))) : wpList P ops Q (op :: rest) a (w.alloc (.cells c ty)) := by
  subst hb
  exact wpList_store_new hgd ty x y ho c cells hx hy hi hs h1 h
theorem own_setsX {X B : Nat} {e : TypeId} {size n : Nat} {v : Value} {xs : List Value} (hX : X < B) : ∀ (vs : List Value) (o : Nat) (z : World), z.ownsRow B e size v n xs → (z.setCells X o vs).ownsRow B e size v n xs
  | [], _, _, h => h
  | u :: r, o, z, h => own_setsX hX r (o + 1) (z.setCell ⟨X, o, none⟩ u) (row_only h ((Only.refl (fun k => k = X) z).setCell (.inl rfl) u) (fun k hk hle => by subst hk; omega))
theorem quiet_load_mid {P : Program} {op : Oper} {a : Act} {C : World → Prop} {w : World} (ty : TypeId) (x : Operand) (ho : op.op = .load ty x)
    (b o : Nat) (hx : a.eval x = .pointer (some ⟨b, o, none⟩)) (cs : List Value) (d : TypeDesc) (hc : w.rangeAt b o cs)
    (hu : P.underlying ty = some d) (hd : d.isRow = true) (hi : (P.info? ty).map (·.size) = some cs.length) : op.quietAt P a C w (.agg cs.toArray) := by
  unfold Oper.quietAt execOp
  simp only [ho, hx, Instr.loadAt, Instr.sureAddr, Sem.run_bind, Sem.run_pure, Result.andThen_ok, run_loadVar_mid w b o ty cs d hc hu hd hi]
  exact ⟨rfl, rfl⟩
theorem eff_store20 {P : Program} {Cl : List Value → World → Prop} {ps : List Value} {o : Oper} {ρ : Act} {w w' : World} {X Y : Value} (ty : TypeId) (x y : Operand) (ho : o.op = .store ty x y) (hx : ρ.eval x = X) (hy : ρ.eval y = Y)
    (hr : (Instr.storeAt ty X Y).run P w = .ok () w') (h : Cl (ps ++ [undef]) w') : Reg.effUpon P Cl ps ((execOp ρ.eval o).run P w) := by
  unfold execOp
  simp only [ho, hx, hy, Sem.run_bind, Sem.run_pure, Result.andThen_ok, hr]
  exact h
theorem results_tup {P : Program} {fn : Func} {s s1 s2 : Nat} {T : TypeId} {w : World} (hr : fn.results = #[.cell s T, .tmp s1, .tmp s2]) (tmps : Array Value) (g : Nat) (hs : tmps.getD s undef = .pointer (some ⟨g, 0, none⟩)) (cs : List Value) (d : TypeDesc) (hc : w.rangeAt g 0 cs)
    (hu : P.underlying T = some d) (hd : d.isRow = true) (hi : (P.info? T).map (·.size) = some cs.length) {v1 v2 : Value} (h1 : tmps.getD s1 undef = v1) (h2 : tmps.getD s2 undef = v2) : (results fn tmps).run P w = .ok (.tuple #[.agg cs.toArray, v1, v2]) w := by
  have h := run_loadVar_mid (P := P) w g 0 T cs d hc hu hd hi
  have hs' : tmps[s]?.getD undef = .pointer (some ⟨g, 0, none⟩) := by simpa using hs
  have h1' : tmps[s1]?.getD undef = v1 := by simpa using h1
  have h2' : tmps[s2]?.getD undef = v2 := by simpa using h2
  unfold results
  rw [hr]
  simp [Sem.run_bind, Sem.run_pure, Result.andThen_ok, asAddr, hs', h1', h2', h]
/-- What story answers. -/
def Told (c1 cd c2 : Int) (ls : List Cl) (w : World) (ee : Ending) (w' : World) : Prop :=
  ∃ (h : Bool) (D R : Rn) (p e d now : Int) (ws : List (Int × Int)) (v : Value), ee = .returned (.tuple #[.agg #[.bool (h), .int .u64 (D.x1), .int .u64 (hi D.y1), .int .u64 (lo D.y1), .int .u64 (D.m1), .int .u64 (D.x2), .int .u64 (hi D.y2), .int .u64 (lo D.y2), .int .u64 (D.m2), .bool (D.b), .int .u64 (R.x1), .int .u64 (hi R.y1), .int .u64 (lo R.y1), .int .u64 (R.m1), .int .u64 (R.x2), .int .u64 (hi R.y2), .int .u64 (lo R.y2), .int .u64 (R.m2), .bool (R.b), .int .u64 (p), .int .u64 (e), .int .u64 (d)], v, .int .u64 now]) ∧ St c1 cd c2 ls.length (hdAt ls ls.length) h D R p e d now ws ∧ Below w.heap.size w w' ∧ w'.ownsRow (w.heap.size + 2 + 1) 84 2 v ws.length (ws.flatMap (fun p : Int × Int => [Value.int .u64 p.1, Value.int .u64 p.2]))
theorem told_mk {c1 cd c2 : Int} {ls : List Cl} {w w' : World} {ee : Ending} {h : Bool} {D R : Rn} {p e d now : Int} {ws : List (Int × Int)} {v : Value} (h1 : ee = .returned (.tuple #[.agg #[.bool (h), .int .u64 (D.x1), .int .u64 (hi D.y1), .int .u64 (lo D.y1), .int .u64 (D.m1), .int .u64 (D.x2), .int .u64 (hi D.y2), .int .u64 (lo D.y2), .int .u64 (D.m2), .bool (D.b), .int .u64 (R.x1), .int .u64 (hi R.y1), .int .u64 (lo R.y1), .int .u64 (R.m1), .int .u64 (R.x2), .int .u64 (hi R.y2), .int .u64 (lo R.y2), .int .u64 (R.m2), .bool (R.b), .int .u64 (p), .int .u64 (e), .int .u64 (d)], v, .int .u64 now])) (h2 : St c1 cd c2 ls.length (hdAt ls ls.length) h D R p e d now ws) (h3 : Below w.heap.size w w') (h4 : w'.ownsRow (w.heap.size + 2 + 1) 84 2 v ws.length (ws.flatMap (fun p : Int × Int => [Value.int .u64 p.1, Value.int .u64 p.2]))) : Told c1 cd c2 ls w ee w' := ⟨h, D, R, p, e, d, now, ws, v, h1, h2, h3, h4⟩
theorem told_out {c1 cd c2 : Int} {ls : List Cl} {w w' : World} {ee : Ending} (h : Told c1 cd c2 ls w ee w') : ∃ (h : Bool) (D R : Rn) (p e d now : Int) (ws : List (Int × Int)) (v : Value), ee = .returned (.tuple #[.agg #[.bool (h), .int .u64 (D.x1), .int .u64 (hi D.y1), .int .u64 (lo D.y1), .int .u64 (D.m1), .int .u64 (D.x2), .int .u64 (hi D.y2), .int .u64 (lo D.y2), .int .u64 (D.m2), .bool (D.b), .int .u64 (R.x1), .int .u64 (hi R.y1), .int .u64 (lo R.y1), .int .u64 (R.m1), .int .u64 (R.x2), .int .u64 (hi R.y2), .int .u64 (lo R.y2), .int .u64 (R.m2), .bool (R.b), .int .u64 (p), .int .u64 (e), .int .u64 (d)], v, .int .u64 now]) ∧ St c1 cd c2 ls.length (hdAt ls ls.length) h D R p e d now ws ∧ Below w.heap.size w w' ∧ w'.ownsRow (w.heap.size + 2 + 1) 84 2 v ws.length (ws.flatMap (fun p : Int × Int => [Value.int .u64 p.1, Value.int .u64 p.2])) := h
/-- What story's loop knows at its head. -/
def SRel (w : World) (c1 cd c2 : Int) (ls : List Cl) (wv nw ii : Value) (wr : World) : Prop :=
  ∃ (k : Nat) (h : Bool) (D R : Rn) (p e d now : Int) (ws : List (Int × Int)), k ≤ ls.length ∧ ii = .int .i64 k ∧ nw = .int .u64 now ∧ St c1 cd c2 k (hdAt ls k) h D R p e d now ws ∧ SW w wr c1 cd c2 h D R p e d ∧ wr.ownsRow (w.heap.size + 2 + 1) 84 2 wv ws.length (ws.flatMap (fun p : Int × Int => [Value.int .u64 p.1, Value.int .u64 p.2]))
theorem srel_out {w : World} {c1 cd c2 : Int} {ls : List Cl} {wv nw ii : Value} {wr : World} (h : SRel w c1 cd c2 ls wv nw ii wr) : ∃ (k : Nat) (h : Bool) (D R : Rn) (p e d now : Int) (ws : List (Int × Int)), k ≤ ls.length ∧ ii = .int .i64 k ∧ nw = .int .u64 now ∧ St c1 cd c2 k (hdAt ls k) h D R p e d now ws ∧ SW w wr c1 cd c2 h D R p e d ∧ wr.ownsRow (w.heap.size + 2 + 1) 84 2 wv ws.length (ws.flatMap (fun p : Int × Int => [Value.int .u64 p.1, Value.int .u64 p.2])) := h
theorem srel_mk {w : World} {c1 cd c2 : Int} {ls : List Cl} {wv nw ii : Value} {wr : World} (k : Nat) {h : Bool} {D R : Rn} {p e d now : Int} {ws : List (Int × Int)} (h1 : k ≤ ls.length) (h2 : ii = .int .i64 k) (h3 : nw = .int .u64 now) (h4 : St c1 cd c2 k (hdAt ls k) h D R p e d now ws) (h5 : SW w wr c1 cd c2 h D R p e d) (h6 : wr.ownsRow (w.heap.size + 2 + 1) 84 2 wv ws.length (ws.flatMap (fun p : Int × Int => [Value.int .u64 p.1, Value.int .u64 p.2]))) : SRel w c1 cd c2 ls wv nw ii wr := ⟨k, h, D, R, p, e, d, now, ws, h1, h2, h3, h4, h5, h6⟩
attribute [local irreducible] Told SRel
/-- At story's end: the result's block takes the leaf. -/
structure SE (w z : World) (c1 cd c2 : Int) (h : Bool) (D R : Rn) (p e d : Int) (v : Value) (ws : List (Int × Int)) (ps : List Value) : Prop where
  sw : SW w z c1 cd c2 h D R p e d
  own : z.ownsRow (w.heap.size + 2 + 1) 84 2 v ws.length (ws.flatMap (fun p : Int × Int => [Value.int .u64 p.1, Value.int .u64 p.2]))
  res : 0 < ps.length → z.rangeAt (w.heap.size + 1) 0 (#[.bool (h), .int .u64 (D.x1), .int .u64 (hi D.y1), .int .u64 (lo D.y1), .int .u64 (D.m1), .int .u64 (D.x2), .int .u64 (hi D.y2), .int .u64 (lo D.y2), .int .u64 (D.m2), .bool (D.b), .int .u64 (R.x1), .int .u64 (hi R.y1), .int .u64 (lo R.y1), .int .u64 (R.m1), .int .u64 (R.x2), .int .u64 (hi R.y2), .int .u64 (lo R.y2), .int .u64 (R.m2), .bool (R.b), .int .u64 (p), .int .u64 (e), .int .u64 (d)]).toList
theorem SE.fin {w z : World} {c1 cd c2 : Int} {h : Bool} {D R : Rn} {p e d : Int} {v : Value} {ws : List (Int × Int)} {ps : List Value} (s : SE w z c1 cd c2 h D R p e d v ws ps) (qs : List Value) : SE w (z.setCells (w.heap.size + 1) 0 (#[.bool (h), .int .u64 (D.x1), .int .u64 (hi D.y1), .int .u64 (lo D.y1), .int .u64 (D.m1), .int .u64 (D.x2), .int .u64 (hi D.y2), .int .u64 (lo D.y2), .int .u64 (D.m2), .bool (D.b), .int .u64 (R.x1), .int .u64 (hi R.y1), .int .u64 (lo R.y1), .int .u64 (R.m1), .int .u64 (R.x2), .int .u64 (hi R.y2), .int .u64 (lo R.y2), .int .u64 (R.m2), .bool (R.b), .int .u64 (p), .int .u64 (e), .int .u64 (d)]).toList) c1 cd c2 h D R p e d v ws qs := by
  obtain ⟨⟨a, b, c, f, g, i⟩, own, _⟩ := s
  have hb := below_setCells (B := w.heap.size + 1) (b := w.heap.size + 1) (Nat.le_refl _) (#[.bool (h), .int .u64 (D.x1), .int .u64 (hi D.y1), .int .u64 (lo D.y1), .int .u64 (D.m1), .int .u64 (D.x2), .int .u64 (hi D.y2), .int .u64 (lo D.y2), .int .u64 (D.m2), .bool (D.b), .int .u64 (R.x1), .int .u64 (hi R.y1), .int .u64 (lo R.y1), .int .u64 (R.m1), .int .u64 (R.x2), .int .u64 (hi R.y2), .int .u64 (lo R.y2), .int .u64 (R.m2), .bool (R.b), .int .u64 (p), .int .u64 (e), .int .u64 (d)]).toList 0 z (Below.refl (w.heap.size + 1) z)
  exact ⟨⟨World.rangeAt_setCells_apart a _ _ _ (.inl (by omega)), World.there_setCells b _ _ _, World.there_setCells c _ _ _, range_belB f hb (by omega), by have := hb.size; omega, i.trans (hb.mono (by omega))⟩, own_setsX (by omega) _ _ _ own, fun _ => World.rangeAt_setCells_same _ _ _ _ c⟩
set_option maxHeartbeats 8000000 in
theorem story_c (c1 cd c2 : Int) (h1 : In c1) (h2 : In cd) (h3 : In c2) (hk : ¬ kind c1 cd c2 = 0) (ls : List Cl) (a : Option Addr) (ce : Nat) (hn : ls.length ≤ 1000) (hq : ∀ k (h : k < ls.length), ls[k].wf) (hz : ∀ h : 0 < ls.length, ls[0].kd = 0) (w : World) (hR : RwV (fun q : Cl => [Value.int .i64 q.kd, Value.int .u64 q.nw, Value.int .i64 q.sn, Value.int .i64 q.hd]) 4 w a ls) :
    Calls Try.prog 34 #[.agg #[.int .u64 (c1), .int .u64 (cd), .int .u64 (c2)], .slice a ls.length ce] w fun ee w' => Told c1 cd c2 ls w ee w' := by
  obtain ⟨ie, HI0, HZ0, HZ1, HZ2⟩ := snt20_parts
  have AI := Lib.hid clt_size
  have LI := Lib.hid rlt_info
  have HR := Lib.hid hR
  have HQ := Lib.hid hq
  have HZ := Lib.hid hz
  have HC := Lib.hid (And.intro (And.intro h1 (And.intro h2 h3)) hk)
  clear hR hq hz h1 h2 h3 hk
  go_enter Try.func34, Try.ntmps34
  go_wp2_with (refine wpList_store_new3 rfl 56 _ _ rfl _ #[.bool false, .int .u64 0, .int .u64 0, .int .u64 0, .int .u64 0, .int .u64 0, .int .u64 0, .int .u64 0, .int .u64 0, .bool false, .int .u64 0, .int .u64 0, .int .u64 0, .int .u64 0, .int .u64 0, .int .u64 0, .int .u64 0, .int .u64 0, .bool false, .int .u64 0, .int .u64 0, .int .u64 0] (w.heap.size + 1 + 1) (by simp) rfl rfl LI.out rfl (by kernel_rfl) ?_)
  go_loopw [8, 9, 16] (fun wv nw ii wr => SRel w c1 cd c2 ls wv nw ii wr) (fun _ _ ii _ => ls.length - (intOf ii).toNat)
  case atStart => exact srel_mk (ws := []) 0 (Nat.zero_le _) rfl rfl (st_zero c1 cd c2 _) (sw_start w c1 cd c2 _ _) (World.ownsRow_nil _ _ _ _)
  case round =>
    obtain ⟨k, h, D, R, p, e, d, now, ws, hk, rfl, rfl, hst, hsw, hO⟩ := srel_out hrel
    have HST := Lib.hid hst
    have HSW := Lib.hid hsw
    have HO := Lib.hid hO
    have HOB := Lib.hid (fun k hk => (hO.lt k hk).1)
    have HOL := Lib.hid (fun k hk => (hO.lt k hk).2)
    have hwl := hst.wl
    have hpk : wr.cell? ⟨w.heap.size + 1 + 1, 19, none⟩ = some (.int .u64 p) := hsw.pick
    obtain ⟨hcv0, hcv1, hcv2⟩ := hsw.curve
    have hsz := hsw.sz
    have hB := hsw.bel
    have hx2 : w.heap.size + 1 + 1 < wr.heap.size := by omega
    have hx0 : w.heap.size < wr.heap.size := by omega
    obtain ⟨ao, cap, rfl⟩ := row_form hO
    clear hst hsw hO
    by_cases hlt : k < ls.length
    · obtain ⟨b, o, rfl, hbl, hr⟩ := (HR.out.below hB) k hlt
      have hqk := HQ.out k hlt
      have hh := hdAt_succ ls k hlt
      have hz : k = 0 → ls[k].kd = 0 := fun e => by subst e; exact HZ.out hlt
      generalize ls[k] = q at hr hqk hh hz
      obtain ⟨kd, tk, sn, hd⟩ := q
      obtain ⟨g0, g1, s0, s1, x0, x1⟩ := hqk
      dsimp only at g0 g1 s0 s1 x0 x1 hh hz
      change wr.rangeAt b (o + k * 4) [.int .i64 kd, .int .u64 tk, .int .i64 sn, .int .i64 hd] at hr
      have tm : tk.tmod 1099511627776 = tk % 1099511627776 := Int.tmod_eq_emod_of_nonneg g0
      have a0 : 0 ≤ tk % 1099511627776 ∧ tk % 1099511627776 < 1099511627776 := by omega
      generalize tk % 1099511627776 = A at tm a0
      have n0 := HST.out.n0
      have n1 := HST.out.n1
      have p0 := HST.out.p0
      have p1 := HST.out.p1
      have wA : IntKind.u64.wrap A = A := by rw [wrap_u64]; omega
      have wN : IntKind.u64.wrap (now + A) = now + A := by rw [wrap_u64]; omega
      have hsn := snt_in sn
      have hse : snt sn = (sn.tmod 16384 + 16384).tmod 16384 + 1 := rfl
      generalize hS : snt sn = SN at hsn hse
      generalize hS1 : sn.tmod 16384 = S1 at hsn hse
      generalize hS2 : (S1 + 16384).tmod 16384 = S2 at hsn hse
      have ws1 : IntKind.i64.wrap S1 = S1 := by rw [IntKind.wrap_i64]; omega
      have ws2 : IntKind.i64.wrap (S1 + 16384) = S1 + 16384 := by rw [IntKind.wrap_i64]; omega
      have ws3 : IntKind.i64.wrap S2 = S2 := by rw [IntKind.wrap_i64]; omega
      have ws4 : IntKind.i64.wrap (S2 + 1) = SN := by rw [IntKind.wrap_i64]; omega
      have hN : 0 ≤ now + A ∧ now + A ≤ 9223372036854775808 := by omega
      obtain ⟨⟨h1, h2, h3⟩, hkn⟩ := HC.out
      have dk := HST.out.dk
      have rk := HST.out.rk
      have pI : In p := by unfold In; omega
      by_cases hkd : kd = 0
      · have e1 : (kd == 0) = true := by simpa using hkd
        have kw := fun z => wake20_c h D R dk rk p e d c1 cd c2 (now + A) hd pI h1 h2 h3 hN.1 hN.2 x1 z
        have hst2 := st_wake (hd' := hd) h1 h2 h3 hkn (by omega) a0.1 a0.2 HST.out
        generalize tE (wkl h R (srun false c1 cd c2 (now + A) (p * 65536))) p hd = E2 at *
        generalize tD (wkl h D (srun true c1 cd c2 (now + A) (p * 65536))) p hd = F2 at *
        generalize wkl h D (srun true c1 cd c2 (now + A) (p * 65536)) = D2 at *
        generalize wkl h R (srun false c1 cd c2 (now + A) (p * 65536)) = R2 at *
        obtain ⟨NT, hNT⟩ : ∃ NT, now + A = NT := ⟨_, rfl⟩
        rw [hNT] at wN hst2 kw
        rw [← hh] at hst2
        have KW := Lib.hid kw
        have HS2 := Lib.hid hst2
        have HH := Lib.hid hh
        clear kw hst2 hh hz dk rk pI h1 h2 h3 hkn hN hsn hse a0 hkd g0 g1 s0 s1 x0 x1 n0 n1 p0 p1
        go_wp2_with (first | (refine wpList_load_mid rfl 60 _ rfl b (o + k * 4) rfl _ _ hr Try.underlying60 rfl AI.out ?_) | (at_builtin; refine wpList_append_own _ rfl _ _ 79 rfl (w.heap.size + 2 + 1) 84 ie (.agg #[.int .u64 0, .int .u64 0]) 2 16 Try.underlying79 HI0 HZ0 HZ1 HZ2 rfl (by decide) (_) (ws.length) ((ws.flatMap (fun p : Int × Int => [Value.int .u64 p.1, Value.int .u64 p.2]))) rfl (HO.out.alloc _ |>.alloc _) ⟨_, 0, none⟩ 1 1 [.int .u64 NT, .int .u64 p] rfl rfl ?c1 ?c2 ?c3 ?c4 ?c5 ?_))
        (case c1 => (intro j u hu; rcases j with _ | _ | j <;> simp at hu <;> (try subst hu) <;> simp [Addr.add, go_sem])); (case c2 => (intro u hu; simp at hu; rcases hu with rfl | rfl <;> rfl)); (case c3 => (unfold maxLen; omega)); (case c4 => omega); (case c5 => (first | (simp; done) | (simp; omega) | omega))
        intro v' w9 hown' hgrow _
        have hb9 : Below (w.heap.size + 3) wr w9 := Below.grown (by repeat' (first | with_reducible exact Below.refl _ _ | with_reducible assumption | ((with_reducible refine Below.drew ?_)) | ((with_reducible refine below_drewN ?_ _)) | ((with_reducible refine Below.alloc ?_ ?_ _); rotate_left; focus (first | omega | (simp; done) | (simp; omega))) | ((with_reducible refine Below.setCell ?_ ?_ _); rotate_left; focus (first | omega | (simp; done) | (simp; omega))) | ((with_reducible refine Below.trans ?_ (Below.mono (by with_reducible assumption) ?_)); rotate_left; focus (first | omega | (simp; done) | (simp; omega))))) hgrow (by first | (simp; done) | (simp; omega) | omega) HOB.out
        have hgs := (Below.grown (Below.refl (w.heap.size + 3) _) hgrow (by first | (simp; done) | (simp; omega) | omega) HOB.out).size
        (try simp at hgs)
        have hc9 : w9.cell? ⟨wr.heap.size, 3, none⟩ = some (.int .i64 hd) := by
          rw [(grown_at hgrow (b := wr.heap.size) (by first | (simp; done) | (simp; omega)) (fun k hk e => by have := HOL.out k hk; omega) 3).1]
          simp [go_sem]
        have HS9 := Lib.hid (HSW.out.keep hb9 (Nat.le_refl _))
        have HO9 := Lib.hid (show w9.ownsRow (w.heap.size + 2 + 1) 84 2 v' (ws ++ [(NT, p)]).length ((ws ++ [(NT, p)]).flatMap (fun p : Int × Int => [Value.int .u64 p.1, Value.int .u64 p.2])) by rw [List.length_append, List.flatMap_append]; simpa using hown')
        clear hown' hb9 hgrow hpk hcv0 hcv1 hcv2
        obtain ⟨hcv0, hcv1, hcv2⟩ := HS9.out.curve
        have hz9 := HS9.out.sz
        go_wp2_with (first | (refine wpList_load_mid rfl 56 _ rfl (w.heap.size + 2) 0 rfl (#[.bool (h), .int .u64 (D.x1), .int .u64 (hi D.y1), .int .u64 (lo D.y1), .int .u64 (D.m1), .int .u64 (D.x2), .int .u64 (hi D.y2), .int .u64 (lo D.y2), .int .u64 (D.m2), .bool (D.b), .int .u64 (R.x1), .int .u64 (hi R.y1), .int .u64 (lo R.y1), .int .u64 (R.m1), .int .u64 (R.x2), .int .u64 (hi R.y2), .int .u64 (lo R.y2), .int .u64 (R.m2), .bool (R.b), .int .u64 (p), .int .u64 (e), .int .u64 (d)]).toList _ (HS9.out.leaf) Try.underlying56 rfl LI.out ?_) | (go_at_call 27; (with_reducible refine (KW.out _).mono ?_); rintro ee w10 ⟨rfl, hbel⟩; have hO10 := Lib.hid (row_bel HO9.out hbel); have hS10 := Lib.hid (HS9.out.keep hbel (by omega)); clear hbel) | (refine wpList_store_mid rfl 56 _ _ rfl (w.heap.size + 2) 0 #[.bool (true), .int .u64 (D2.x1), .int .u64 (hi D2.y1), .int .u64 (lo D2.y1), .int .u64 (D2.m1), .int .u64 (D2.x2), .int .u64 (hi D2.y2), .int .u64 (lo D2.y2), .int .u64 (D2.m2), .bool (D2.b), .int .u64 (R2.x1), .int .u64 (hi R2.y1), .int .u64 (lo R2.y1), .int .u64 (R2.m1), .int .u64 (R2.x2), .int .u64 (hi R2.y2), .int .u64 (lo R2.y2), .int .u64 (R2.m2), .bool (R2.b), .int .u64 (p), .int .u64 (E2), .int .u64 (F2)] rfl rfl (hS10.out).th LI.out (lfa_one true D2 R2 p E2 F2) ?_; refine shrunk20 (fun z => SW w z c1 cd c2 true D2 R2 p E2 F2 ∧ z.ownsRow (w.heap.size + 2 + 1) 84 2 (v') (ws ++ [(NT, p)]).length ((ws ++ [(NT, p)]).flatMap (fun p : Int × Int => [Value.int .u64 p.1, Value.int .u64 p.2]))) ⟨(hS10.out).set, own_sets20 _ _ _ (hO10.out)⟩ ?_; intro w12 h12; have H12 := Lib.hid h12; clear h12))
        go_roundw
        case rel => (first | exact srel_mk (ws := (ws ++ [(NT, p)])) (k + 1) (by omega) (by go_num) rfl HS2.out H12.out.1 H12.out.2 | ((repeat apply Exists.intro); exact ⟨srel_mk (ws := (ws ++ [(NT, p)])) (k + 1) (by omega) (by go_num) rfl HS2.out H12.out.1 H12.out.2, rfl⟩))
        case measure => simp [intOf]; omega
      · have e1 : (kd == 0) = false := by simpa using hkd
        have hk0 : 0 < k := by
          rcases Nat.eq_zero_or_pos k with e | e
          · exact absurd (hz e) hkd
          · exact e
        by_cases hkd1 : kd = 1
        · have e2 : (kd == 1) = true := by simpa using hkd1
          have kw := fun z => took20_c h D R dk rk p e d SN hd pI (by omega) x1 z
          have hst2 := st_took (hd' := hd) (by omega) hk0 a0.1 a0.2 hsn.2.2.2.2.1 hsn.2.2.2.2.2 HST.out
          generalize tE R (tP p SN) hd = E2 at *
          generalize tD D (tP p SN) hd = F2 at *
          generalize tP p SN = P2 at *
          obtain ⟨NT, hNT⟩ : ∃ NT, now + A = NT := ⟨_, rfl⟩
          rw [hNT] at wN hst2
          rw [← hh] at hst2
          have KW := Lib.hid kw
          have HS2 := Lib.hid hst2
          have HH := Lib.hid hh
          clear kw hst2 hh hz dk rk pI h1 h2 h3 hkn hN hsn hse a0 hkd hkd1 hk0 g0 g1 s0 s1 x0 x1 n0 n1 p0 p1
          go_wp2_with (first | (refine wpList_load_mid rfl 60 _ rfl b (o + k * 4) rfl _ _ hr Try.underlying60 rfl AI.out ?_) | (refine wpList_load_mid rfl 56 _ rfl (w.heap.size + 2) 0 rfl (#[.bool (h), .int .u64 (D.x1), .int .u64 (hi D.y1), .int .u64 (lo D.y1), .int .u64 (D.m1), .int .u64 (D.x2), .int .u64 (hi D.y2), .int .u64 (lo D.y2), .int .u64 (D.m2), .bool (D.b), .int .u64 (R.x1), .int .u64 (hi R.y1), .int .u64 (lo R.y1), .int .u64 (R.m1), .int .u64 (R.x2), .int .u64 (hi R.y2), .int .u64 (lo R.y2), .int .u64 (R.m2), .bool (R.b), .int .u64 (p), .int .u64 (e), .int .u64 (d)]).toList _ (World.rangeAt_alloc HSW.out.leaf _) Try.underlying56 rfl LI.out ?_) | (go_at_call 29; (with_reducible refine (KW.out _).mono ?_); rintro ee w10 ⟨rfl, hbel⟩; have hO10 := Lib.hid (row_bel (HO.out.alloc _) hbel); have hB10 : Below (w.heap.size + 3) wr w10 := Below.trans (show Below (w.heap.size + 3) wr _ by ((repeat' (first | with_reducible exact Below.refl _ _ | with_reducible assumption | ((with_reducible refine Below.drew ?_)) | ((with_reducible refine below_drewN ?_ _)) | ((with_reducible refine Below.alloc ?_ ?_ _); rotate_left; focus (first | omega | (simp; done) | (simp; omega))) | ((with_reducible refine Below.setCell ?_ ?_ _); rotate_left; focus (first | omega | (simp; done) | (simp; omega))) | ((with_reducible refine Below.trans ?_ (Below.mono (by with_reducible assumption) ?_)); rotate_left; focus (first | omega | (simp; done) | (simp; omega))))); done)) (hbel.mono (by first | (simp; done) | (simp; omega) | omega)); have hS10 := Lib.hid (HSW.out.keep hB10 (Nat.le_refl _)); clear hbel hB10) | (refine wpList_store_mid rfl 56 _ _ rfl (w.heap.size + 2) 0 #[.bool (h), .int .u64 (D.x1), .int .u64 (hi D.y1), .int .u64 (lo D.y1), .int .u64 (D.m1), .int .u64 (D.x2), .int .u64 (hi D.y2), .int .u64 (lo D.y2), .int .u64 (D.m2), .bool (D.b), .int .u64 (R.x1), .int .u64 (hi R.y1), .int .u64 (lo R.y1), .int .u64 (R.m1), .int .u64 (R.x2), .int .u64 (hi R.y2), .int .u64 (lo R.y2), .int .u64 (R.m2), .bool (R.b), .int .u64 (P2), .int .u64 (E2), .int .u64 (F2)] rfl rfl (hS10.out).th LI.out (lfa_one h D R P2 E2 F2) ?_; refine shrunk20 (fun z => SW w z c1 cd c2 h D R P2 E2 F2 ∧ z.ownsRow (w.heap.size + 2 + 1) 84 2 (.slice ao ws.length cap) (ws).length ((ws).flatMap (fun p : Int × Int => [Value.int .u64 p.1, Value.int .u64 p.2]))) ⟨(hS10.out).set, own_sets20 _ _ _ (hO10.out)⟩ ?_; intro w12 h12; have H12 := Lib.hid h12; clear h12))
          go_roundw
          case rel => (first | exact srel_mk (ws := ws) (k + 1) (by omega) (by go_num) rfl HS2.out H12.out.1 H12.out.2 | ((repeat apply Exists.intro); exact ⟨srel_mk (ws := ws) (k + 1) (by omega) (by go_num) rfl HS2.out H12.out.1 H12.out.2, rfl⟩))
          case measure => simp [intOf]; omega
        · have e2 : (kd == 1) = false := by simpa using hkd1
          have kw := fun z => passed_c h D R dk rk p e d hd pI x1 z
          have hst2 := st_pass (hd' := hd) (by omega) hk0 a0.1 a0.2 HST.out
          generalize tE R p hd = E2 at *
          generalize tD D p hd = F2 at *
          obtain ⟨NT, hNT⟩ : ∃ NT, now + A = NT := ⟨_, rfl⟩
          rw [hNT] at wN hst2
          rw [← hh] at hst2
          have KW := Lib.hid kw
          have HS2 := Lib.hid hst2
          have HH := Lib.hid hh
          clear kw hst2 hh hz dk rk pI h1 h2 h3 hkn hN hsn hse a0 hkd hkd1 hk0 g0 g1 s0 s1 x0 x1 n0 n1 p0 p1
          go_wp2_with (first | (refine wpList_load_mid rfl 60 _ rfl b (o + k * 4) rfl _ _ hr Try.underlying60 rfl AI.out ?_) | (refine wpList_load_mid rfl 56 _ rfl (w.heap.size + 2) 0 rfl (#[.bool (h), .int .u64 (D.x1), .int .u64 (hi D.y1), .int .u64 (lo D.y1), .int .u64 (D.m1), .int .u64 (D.x2), .int .u64 (hi D.y2), .int .u64 (lo D.y2), .int .u64 (D.m2), .bool (D.b), .int .u64 (R.x1), .int .u64 (hi R.y1), .int .u64 (lo R.y1), .int .u64 (R.m1), .int .u64 (R.x2), .int .u64 (hi R.y2), .int .u64 (lo R.y2), .int .u64 (R.m2), .bool (R.b), .int .u64 (p), .int .u64 (e), .int .u64 (d)]).toList _ (World.rangeAt_alloc HSW.out.leaf _) Try.underlying56 rfl LI.out ?_) | (go_at_call 31; (with_reducible refine (KW.out _).mono ?_); rintro ee w10 ⟨rfl, hbel⟩; have hO10 := Lib.hid (row_bel (HO.out.alloc _) hbel); have hB10 : Below (w.heap.size + 3) wr w10 := Below.trans (show Below (w.heap.size + 3) wr _ by ((repeat' (first | with_reducible exact Below.refl _ _ | with_reducible assumption | ((with_reducible refine Below.drew ?_)) | ((with_reducible refine below_drewN ?_ _)) | ((with_reducible refine Below.alloc ?_ ?_ _); rotate_left; focus (first | omega | (simp; done) | (simp; omega))) | ((with_reducible refine Below.setCell ?_ ?_ _); rotate_left; focus (first | omega | (simp; done) | (simp; omega))) | ((with_reducible refine Below.trans ?_ (Below.mono (by with_reducible assumption) ?_)); rotate_left; focus (first | omega | (simp; done) | (simp; omega))))); done)) (hbel.mono (by first | (simp; done) | (simp; omega) | omega)); have hS10 := Lib.hid (HSW.out.keep hB10 (Nat.le_refl _)); clear hbel hB10) | (refine wpList_store_mid rfl 56 _ _ rfl (w.heap.size + 2) 0 #[.bool (h), .int .u64 (D.x1), .int .u64 (hi D.y1), .int .u64 (lo D.y1), .int .u64 (D.m1), .int .u64 (D.x2), .int .u64 (hi D.y2), .int .u64 (lo D.y2), .int .u64 (D.m2), .bool (D.b), .int .u64 (R.x1), .int .u64 (hi R.y1), .int .u64 (lo R.y1), .int .u64 (R.m1), .int .u64 (R.x2), .int .u64 (hi R.y2), .int .u64 (lo R.y2), .int .u64 (R.m2), .bool (R.b), .int .u64 (p), .int .u64 (E2), .int .u64 (F2)] rfl rfl (hS10.out).th LI.out (lfa_one h D R p E2 F2) ?_; refine shrunk20 (fun z => SW w z c1 cd c2 h D R p E2 F2 ∧ z.ownsRow (w.heap.size + 2 + 1) 84 2 (.slice ao ws.length cap) (ws).length ((ws).flatMap (fun p : Int × Int => [Value.int .u64 p.1, Value.int .u64 p.2]))) ⟨(hS10.out).set, own_sets20 _ _ _ (hO10.out)⟩ ?_; intro w12 h12; have H12 := Lib.hid h12; clear h12))
          go_roundw
          case rel => (first | exact srel_mk (ws := ws) (k + 1) (by omega) (by go_num) rfl HS2.out H12.out.1 H12.out.2 | ((repeat apply Exists.intro); exact ⟨srel_mk (ws := ws) (k + 1) (by omega) (by go_num) rfl HS2.out H12.out.1 H12.out.2, rfl⟩))
          case measure => simp [intOf]; omega
    · obtain rfl : k = ls.length := by omega
      clear hpk hcv0 hcv1 hcv2
      have HE := Lib.hid (SE.fin (ps := []) ⟨HSW.out, HO.out, fun h => absurd h (Nat.lt_irrefl _)⟩ [undef])
      go_wp2_with (first | (refine wpList_load_mid rfl 56 _ rfl (w.heap.size + 2) 0 rfl (#[.bool (h), .int .u64 (D.x1), .int .u64 (hi D.y1), .int .u64 (lo D.y1), .int .u64 (D.m1), .int .u64 (D.x2), .int .u64 (hi D.y2), .int .u64 (lo D.y2), .int .u64 (D.m2), .bool (D.b), .int .u64 (R.x1), .int .u64 (hi R.y1), .int .u64 (lo R.y1), .int .u64 (R.m1), .int .u64 (R.x2), .int .u64 (hi R.y2), .int .u64 (lo R.y2), .int .u64 (R.m2), .bool (R.b), .int .u64 (p), .int .u64 (e), .int .u64 (d)]).toList _ (HSW.out.leaf) Try.underlying56 rfl LI.out ?_) | (refine wpList_store_mid rfl 56 _ _ rfl (w.heap.size + 1) 0 #[.bool (h), .int .u64 (D.x1), .int .u64 (hi D.y1), .int .u64 (lo D.y1), .int .u64 (D.m1), .int .u64 (D.x2), .int .u64 (hi D.y2), .int .u64 (lo D.y2), .int .u64 (D.m2), .bool (D.b), .int .u64 (R.x1), .int .u64 (hi R.y1), .int .u64 (lo R.y1), .int .u64 (R.m1), .int .u64 (R.x2), .int .u64 (hi R.y2), .int .u64 (lo R.y2), .int .u64 (R.m2), .bool (R.b), .int .u64 (p), .int .u64 (e), .int .u64 (d)] rfl rfl HSW.out.out LI.out (lfa_one h D R p e d) ?_))
      refine bodyPost_ret (v := .tuple #[.agg #[.bool (h), .int .u64 (D.x1), .int .u64 (hi D.y1), .int .u64 (lo D.y1), .int .u64 (D.m1), .int .u64 (D.x2), .int .u64 (hi D.y2), .int .u64 (lo D.y2), .int .u64 (D.m2), .bool (D.b), .int .u64 (R.x1), .int .u64 (hi R.y1), .int .u64 (lo R.y1), .int .u64 (R.m1), .int .u64 (R.x2), .int .u64 (hi R.y2), .int .u64 (lo R.y2), .int .u64 (R.m2), .bool (R.b), .int .u64 (p), .int .u64 (e), .int .u64 (d)], .slice ao ws.length cap, .int .u64 now]) (results_tup Try.results34 _ (w.heap.size + 1) rfl _ _ (HE.out.res (by decide)) Try.underlying56 rfl rlt_info rfl rfl) rfl (told_mk rfl HST.out HE.out.sw.bel HE.out.own)
end Go.Proofs.Ytdahjhokcjfioaa
