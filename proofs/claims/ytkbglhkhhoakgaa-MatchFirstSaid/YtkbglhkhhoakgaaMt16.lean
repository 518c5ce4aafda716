/- MatchFirst. -/
import Derived.Test.YtkbglhkhhoakgaaMt15
namespace Go.Proofs.Ytkbglhkhhoakgaa
set_option linter.unusedVariables false
set_option linter.unusedSimpArgs false
set_option maxRecDepth 100000
open Go.RowKit Fg Reg
attribute [local irreducible] Reg.wE

theorem eff_app {P : Program} {Cl : List Value → World → Prop} {ps : List Value} {o : Oper} {ρ : Act} {w w' : World} {v y v' : Value} (s x : Operand) (t : TypeId)
    (ho : o.op = .call { callee := .builtin .append, args := #[s, x], argTypes := #[t, t] }) (hs : ρ.eval s = v) (hx : ρ.eval x = y) (hr : (Builtin.append_ #[t, t] o.type #[v, y]).run P w = .ok v' w') (h : Cl (ps ++ [v']) w') :
    effUpon P Cl ps ((execOp ρ.eval o).run P w) := by
  unfold execOp
  simp only [ho, resolve, invoke, builtin, Sem.run_bind, Sem.run_pure, Result.andThen_ok, List.map_toArray, List.map_cons, List.map_nil, hs, hx, hr]
  exact h
def r8 : Rl := ⟨fun _ => 0, fun _ => 0, 8⟩
def r9 (r : Rl) : Rl := ⟨r.m, r.s, 9⟩
theorem mtc_zero (h : Nat → Nat) : mtc (fun _ => 0) (fun _ => 0) h = true := by
  unfold mtc; simp
theorem rwv_app {rs : List Rl} {r : Rl} (h : rwv rs = 0) (hr : rmay r.m r.s r.cls = true) : rwv (rs ++ [r]) = 0 := by
  refine rwv_yes ?_
  have ha : rs.all (fun r => rmay r.m r.s r.cls) = true := by
    unfold rwv at h
    split at h
    · assumption
    · cases h
  rw [List.all_append, ha]
  simp [hr]
theorem rmay_9 {rs : List Rl} (h : rwv rs = 0) (i : Nat) (hi : i < rs.length) : rmay (r9 rs[i]).m (r9 rs[i]).s (r9 rs[i]).cls = true := by
  have ha : rs.all (fun r => rmay r.m r.s r.cls) = true := by
    unfold rwv at h
    split at h
    · assumption
    · cases h
  have := List.all_eq_true.1 ha _ (List.getElem_mem hi)
  unfold rmay at this ⊢
  simp at this
  simp [r9, this.2]
theorem rmay_8 : rmay r8.m r8.s r8.cls = true := by
  unfold rmay r8
  rw [mtc_zero]
  rfl
theorem find_9 (rs : List Rl) (h : Nat → Nat) (i : Nat) (hi : i < rs.length) : rfind (rs ++ [r9 rs[i]]) h = rfind rs h ∧ ferr (rs ++ [r9 rs[i]]) h = ferr rs h := by
  cases hf : rs.find? (fun r => mtc r.m r.s h) with
  | some r =>
    constructor
    · unfold rfind; rw [List.find?_append, hf]; rfl
    · unfold ferr
      have : rs.any (fun r => mtc r.m r.s h) = true := List.any_eq_true.2 ⟨r, List.mem_of_find?_eq_some hf, by simpa using List.find?_some hf⟩
      rw [List.any_append, this]; rfl
  | none =>
    have hno := List.find?_eq_none.1 hf
    have hi' : mtc (r9 rs[i]).m (r9 rs[i]).s h = false := by have := hno _ (List.getElem_mem hi); simpa [r9] using this
    constructor
    · unfold rfind; rw [List.find?_append, hf]; simp [hi']
    · unfold ferr; rw [List.any_append]; simp [hi']
theorem find_8 (rs : List Rl) (h : Nat → Nat) : ferr (rs ++ [r8]) h = 0 ∧ rfind (rs ++ [r8]) h = if ferr rs h = 0 then rfind rs h else 8 := by
  constructor
  · unfold ferr; rw [List.any_append]; simp [r8, mtc_zero]
  · cases hf : rs.find? (fun r => mtc r.m r.s h) with
    | some r =>
      have : rs.any (fun r => mtc r.m r.s h) = true := List.any_eq_true.2 ⟨r, List.mem_of_find?_eq_some hf, by simpa using List.find?_some hf⟩
      unfold rfind ferr; rw [List.find?_append, hf, this]; rfl
    | none =>
      have : rs.any (fun r => mtc r.m r.s h) = false := by
        have hno := List.find?_eq_none.1 hf
        rw [List.any_eq_false]
        exact fun r hr => by simpa using hno r hr
      unfold rfind ferr; rw [List.find?_append, hf, this]; simp [r8, mtc_zero]
theorem wf_app {rs : List Rl} {r : Rl} (h : ∀ k (hk : k < rs.length), rs[k].wf) (hr : r.wf) : ∀ k (hk : k < (rs ++ [r]).length), (rs ++ [r])[k].wf := fun k hk => by
  rcases Nat.lt_or_ge k rs.length with hl | hl
  · rw [List.getElem_append_left hl]; exact h k hl
  · rw [List.getElem_append_right hl]; simpa using hr
/-- The three tables, by what they are asked. -/
theorem new_ok' (rs : List Rl) (hn : rs.length ≤ 32) (hwf : ∀ k (hk : k < rs.length), rs[k].wf) (h0 : rwv rs = 0) (n : Nat) (hl : rs.length = n) (a : Option Addr) (c : Nat) (w : World) (hR : RlsV w a rs) :
    Calls Try.prog 13 #[.slice a n c] w fun e w' => (∃ p, e = .returned (.tuple #[.pointer (some ⟨p, 0, none⟩), .int .i64 0]) ∧ TB w' p rs) ∧ Below w.heap.size w w' := by
  subst hl
  exact (new_c rs a c hn hwf w hR).mono fun e w' ⟨hb, hh⟩ => by
    rcases hh with ⟨_, p, he, ht, _⟩ | ⟨h1, _⟩
    · exact ⟨⟨p, he, ht⟩, hb⟩
    · rw [h0] at h1; cases h1
/-- Where the law has nothing to ask. -/
theorem first_out (rs : List Rl) (a : Option Addr) (c : Nat) (h : Nat → Nat) (n : Int) (hwf : ∀ k (hk : k < rs.length), rs[k].wf) (hc : rs.length = 0 ∨ (0 < rs.length ∧ 30 < rs.length) ∨ (0 < rs.length ∧ rs.length ≤ 30 ∧ rwv rs = 1) ∨ (0 < rs.length ∧ rs.length ≤ 30 ∧ rwv rs = 0 ∧ n < 0)) (w : World) (hR : RlsV w a rs) :
    Calls Try.prog 4 #[.slice a rs.length c, .agg #[.int .u16 (h 0 : Nat), .int .u16 (h 1 : Nat), .int .u16 (h 2 : Nat), .int .u16 (h 3 : Nat)], .int .i64 n] w fun e w' => e = .returned (.bool true) ∧ Below w.heap.size w w' := by
  have KS := Lib.hid seven_c
  rcases hc with hc | ⟨hc0, hc⟩ | ⟨hc0, hc, hw⟩ | ⟨hc0, hc, hw, hn⟩
  · have e1 : ((rs.length : Int) == 0) = true := by simp; exact List.length_eq_zero_iff.1 hc
    clear hR hwf
    go_enter Try.func4, Try.ntmps4
    go_wp2_with (go_at_call 12; ((with_reducible refine (KS.out _).mono ?_); rintro e w9 ⟨rfl, hbel⟩; obtain ⟨hcc, hff⟩ := bcell hbel; have hsz := hbel.size; (try simp at hsz); have hF : Below w.heap.size w w9 := (by ((repeat' apply And.intro) <;> first | (simp [go_sem, *]; done) | omega | (repeat' (first | with_reducible exact Below.refl _ _ | with_reducible assumption | ((with_reducible refine Below.drew ?_)) | ((with_reducible refine below_drewN ?_ _)) | ((with_reducible refine Below.alloc ?_ ?_ _); rotate_left; focus (first | omega | (simp; done) | (simp; omega))) | ((with_reducible refine Below.setCell ?_ ?_ _); rotate_left; focus (first | omega | (simp; done) | (simp; omega))) | ((with_reducible refine Below.trans ?_ (Below.mono (by with_reducible assumption) ?_)); rotate_left; focus (first | omega | (simp; done) | (simp; omega))))))); go_split_ands; clear hcc hff hbel))
    (go_ret; refine ⟨?_, ?_⟩; (focus (exact rfl)); ((repeat' (first | with_reducible exact Below.refl _ _ | with_reducible assumption | ((with_reducible refine Below.drew ?_)) | ((with_reducible refine below_drewN ?_ _)) | ((with_reducible refine Below.alloc ?_ ?_ _); rotate_left; focus (first | omega | (simp; done) | (simp; omega))) | ((with_reducible refine Below.setCell ?_ ?_ _); rotate_left; focus (first | omega | (simp; done) | (simp; omega))) | ((with_reducible refine Below.trans ?_ (Below.mono (by with_reducible assumption) ?_)); rotate_left; focus (first | omega | (simp; done) | (simp; omega))))); done))
  · have e1 : ((rs.length : Int) == 0) = false := by simp; intro h; rw [h] at hc0; cases hc0
    have e2 : decide (30 < (rs.length : Int)) = true := by simp; omega
    clear hR hwf
    go_enter Try.func4, Try.ntmps4
    go_wp2_with (go_at_call 12; ((with_reducible refine (KS.out _).mono ?_); rintro e w9 ⟨rfl, hbel⟩; obtain ⟨hcc, hff⟩ := bcell hbel; have hsz := hbel.size; (try simp at hsz); have hF : Below w.heap.size w w9 := (by ((repeat' apply And.intro) <;> first | (simp [go_sem, *]; done) | omega | (repeat' (first | with_reducible exact Below.refl _ _ | with_reducible assumption | ((with_reducible refine Below.drew ?_)) | ((with_reducible refine below_drewN ?_ _)) | ((with_reducible refine Below.alloc ?_ ?_ _); rotate_left; focus (first | omega | (simp; done) | (simp; omega))) | ((with_reducible refine Below.setCell ?_ ?_ _); rotate_left; focus (first | omega | (simp; done) | (simp; omega))) | ((with_reducible refine Below.trans ?_ (Below.mono (by with_reducible assumption) ?_)); rotate_left; focus (first | omega | (simp; done) | (simp; omega))))))); go_split_ands; clear hcc hff hbel))
    (go_ret; refine ⟨?_, ?_⟩; (focus (exact rfl)); ((repeat' (first | with_reducible exact Below.refl _ _ | with_reducible assumption | ((with_reducible refine Below.drew ?_)) | ((with_reducible refine below_drewN ?_ _)) | ((with_reducible refine Below.alloc ?_ ?_ _); rotate_left; focus (first | omega | (simp; done) | (simp; omega))) | ((with_reducible refine Below.setCell ?_ ?_ _); rotate_left; focus (first | omega | (simp; done) | (simp; omega))) | ((with_reducible refine Below.trans ?_ (Below.mono (by with_reducible assumption) ?_)); rotate_left; focus (first | omega | (simp; done) | (simp; omega))))); done))
  · have e1 : ((rs.length : Int) == 0) = false := by simp; intro h; rw [h] at hc0; cases hc0
    have e2 : decide (30 < (rs.length : Int)) = false := by simp; omega
    have KW := Lib.hid (fun (z : World) (hz : Below w.heap.size w z) => by have := rwr_c rs a c (by omega) hwf z (hR.below hz); rw [hw] at this; exact this)
    clear hR hwf
    go_enter Try.func4, Try.ntmps4
    go_wp2_with (first | (go_at_call 14; ((with_reducible refine (KW.out _ (by (repeat' (first | with_reducible exact Below.refl _ _ | with_reducible assumption | ((with_reducible refine Below.drew ?_)) | ((with_reducible refine below_drewN ?_ _)) | ((with_reducible refine Below.alloc ?_ ?_ _); rotate_left; focus (first | omega | (simp; done) | (simp; omega))) | ((with_reducible refine Below.setCell ?_ ?_ _); rotate_left; focus (first | omega | (simp; done) | (simp; omega))) | ((with_reducible refine Below.trans ?_ (Below.mono (by with_reducible assumption) ?_)); rotate_left; focus (first | omega | (simp; done) | (simp; omega))))))).mono ?_); rintro e w2 ⟨rfl, hbel⟩; obtain ⟨hcc, hff⟩ := bcell hbel; have hsz := hbel.size; (try simp at hsz); have hF : Below w.heap.size w w2 := (by ((repeat' apply And.intro) <;> first | (simp [go_sem, *]; done) | omega | (repeat' (first | with_reducible exact Below.refl _ _ | with_reducible assumption | ((with_reducible refine Below.drew ?_)) | ((with_reducible refine below_drewN ?_ _)) | ((with_reducible refine Below.alloc ?_ ?_ _); rotate_left; focus (first | omega | (simp; done) | (simp; omega))) | ((with_reducible refine Below.setCell ?_ ?_ _); rotate_left; focus (first | omega | (simp; done) | (simp; omega))) | ((with_reducible refine Below.trans ?_ (Below.mono (by with_reducible assumption) ?_)); rotate_left; focus (first | omega | (simp; done) | (simp; omega))))))); go_split_ands; clear hcc hff hbel)) | (go_at_call 12; ((with_reducible refine (KS.out _).mono ?_); rintro e w9 ⟨rfl, hbel⟩; obtain ⟨hcc, hff⟩ := bcell hbel; have hsz := hbel.size; (try simp at hsz); have hF : Below w.heap.size w w9 := (by ((repeat' apply And.intro) <;> first | (simp [go_sem, *]; done) | omega | (repeat' (first | with_reducible exact Below.refl _ _ | with_reducible assumption | ((with_reducible refine Below.drew ?_)) | ((with_reducible refine below_drewN ?_ _)) | ((with_reducible refine Below.alloc ?_ ?_ _); rotate_left; focus (first | omega | (simp; done) | (simp; omega))) | ((with_reducible refine Below.setCell ?_ ?_ _); rotate_left; focus (first | omega | (simp; done) | (simp; omega))) | ((with_reducible refine Below.trans ?_ (Below.mono (by with_reducible assumption) ?_)); rotate_left; focus (first | omega | (simp; done) | (simp; omega))))))); go_split_ands; clear hcc hff hbel)))
    (go_ret; refine ⟨?_, ?_⟩; (focus (exact rfl)); ((repeat' (first | with_reducible exact Below.refl _ _ | with_reducible assumption | ((with_reducible refine Below.drew ?_)) | ((with_reducible refine below_drewN ?_ _)) | ((with_reducible refine Below.alloc ?_ ?_ _); rotate_left; focus (first | omega | (simp; done) | (simp; omega))) | ((with_reducible refine Below.setCell ?_ ?_ _); rotate_left; focus (first | omega | (simp; done) | (simp; omega))) | ((with_reducible refine Below.trans ?_ (Below.mono (by with_reducible assumption) ?_)); rotate_left; focus (first | omega | (simp; done) | (simp; omega))))); done))
  · have e1 : ((rs.length : Int) == 0) = false := by simp; intro h; rw [h] at hc0; cases hc0
    have e2 : decide (30 < (rs.length : Int)) = false := by simp; omega
    have e3 : decide (n < 0) = true := by simpa using hn
    have KW := Lib.hid (fun (z : World) (hz : Below w.heap.size w z) => by have := rwr_c rs a c (by omega) hwf z (hR.below hz); rw [hw] at this; exact this)
    clear hR hwf
    go_enter Try.func4, Try.ntmps4
    go_wp2_with (first | (go_at_call 14; ((with_reducible refine (KW.out _ (by (repeat' (first | with_reducible exact Below.refl _ _ | with_reducible assumption | ((with_reducible refine Below.drew ?_)) | ((with_reducible refine below_drewN ?_ _)) | ((with_reducible refine Below.alloc ?_ ?_ _); rotate_left; focus (first | omega | (simp; done) | (simp; omega))) | ((with_reducible refine Below.setCell ?_ ?_ _); rotate_left; focus (first | omega | (simp; done) | (simp; omega))) | ((with_reducible refine Below.trans ?_ (Below.mono (by with_reducible assumption) ?_)); rotate_left; focus (first | omega | (simp; done) | (simp; omega))))))).mono ?_); rintro e w2 ⟨rfl, hbel⟩; obtain ⟨hcc, hff⟩ := bcell hbel; have hsz := hbel.size; (try simp at hsz); have hF : Below w.heap.size w w2 := (by ((repeat' apply And.intro) <;> first | (simp [go_sem, *]; done) | omega | (repeat' (first | with_reducible exact Below.refl _ _ | with_reducible assumption | ((with_reducible refine Below.drew ?_)) | ((with_reducible refine below_drewN ?_ _)) | ((with_reducible refine Below.alloc ?_ ?_ _); rotate_left; focus (first | omega | (simp; done) | (simp; omega))) | ((with_reducible refine Below.setCell ?_ ?_ _); rotate_left; focus (first | omega | (simp; done) | (simp; omega))) | ((with_reducible refine Below.trans ?_ (Below.mono (by with_reducible assumption) ?_)); rotate_left; focus (first | omega | (simp; done) | (simp; omega))))))); go_split_ands; clear hcc hff hbel)) | (go_at_call 12; ((with_reducible refine (KS.out _).mono ?_); rintro e w9 ⟨rfl, hbel⟩; obtain ⟨hcc, hff⟩ := bcell hbel; have hsz := hbel.size; (try simp at hsz); have hF : Below w.heap.size w w9 := (by ((repeat' apply And.intro) <;> first | (simp [go_sem, *]; done) | omega | (repeat' (first | with_reducible exact Below.refl _ _ | with_reducible assumption | ((with_reducible refine Below.drew ?_)) | ((with_reducible refine below_drewN ?_ _)) | ((with_reducible refine Below.alloc ?_ ?_ _); rotate_left; focus (first | omega | (simp; done) | (simp; omega))) | ((with_reducible refine Below.setCell ?_ ?_ _); rotate_left; focus (first | omega | (simp; done) | (simp; omega))) | ((with_reducible refine Below.trans ?_ (Below.mono (by with_reducible assumption) ?_)); rotate_left; focus (first | omega | (simp; done) | (simp; omega))))))); go_split_ands; clear hcc hff hbel)))
    (go_ret; refine ⟨?_, ?_⟩; (focus (exact rfl)); ((repeat' (first | with_reducible exact Below.refl _ _ | with_reducible assumption | ((with_reducible refine Below.drew ?_)) | ((with_reducible refine below_drewN ?_ _)) | ((with_reducible refine Below.alloc ?_ ?_ _); rotate_left; focus (first | omega | (simp; done) | (simp; omega))) | ((with_reducible refine Below.setCell ?_ ?_ _); rotate_left; focus (first | omega | (simp; done) | (simp; omega))) | ((with_reducible refine Below.trans ?_ (Below.mono (by with_reducible assumption) ?_)); rotate_left; focus (first | omega | (simp; done) | (simp; omega))))); done))
attribute [local irreducible] World.ownsRow
set_option maxHeartbeats 16000000 in
theorem first_in (rs : List Rl) (b o c : Nat) (h : Nat → Nat) (n : Int) (i : Nat) (hi : i < rs.length) (hn0 : 0 ≤ n) (hni : n.tmod (rs.length : Int) = (i : Int)) (hl : rs.length ≤ 30) (hwf : ∀ k (hk : k < rs.length), rs[k].wf) (hh : ∀ i, h i < 65536) (h1 : rwv rs = 0)
    (f e0 : Int) (hf : rfind rs h = f) (he : ferr rs h = e0) (hfe : (e0 = 0 ∧ 1 ≤ f) ∨ (e0 = 31 ∧ f = 0)) (w : World) (hR : RlsV w (some ⟨b, o, none⟩) rs) :
    Calls Try.prog 4 #[.slice (some ⟨b, o, none⟩) rs.length c, .agg #[.int .u16 (h 0 : Nat), .int .u16 (h 1 : Nat), .int .u16 (h 2 : Nat), .int .u16 (h 3 : Nat)], .int .i64 n] w fun e w' => e = .returned (.bool true) ∧ Below w.heap.size w w' := by
  have KS := Lib.hid seven_c
  have LI := Lib.hid rl_info
  obtain ⟨ie, HI0, HZ0, HZ1, HZ2⟩ := rl_parts
  have hri := hwf i hi
  have hr := hR i hi
  have g9 := rmay_9 h1 i hi
  have q9 := find_9 rs h i hi
  generalize rs[i] = r at hri hr g9 q9
  obtain ⟨b', o', hbo, hbl, hrr⟩ := hr
  cases hbo
  have hc9 : w.cell? ⟨b, (o + i * 9), none⟩ = some (.int .u16 (r.m 0 : Nat)) ∧ w.cell? ⟨b, (o + i * 9) + 1, none⟩ = some (.int .u16 (r.m 1 : Nat)) ∧ w.cell? ⟨b, (o + i * 9) + 2, none⟩ = some (.int .u16 (r.m 2 : Nat)) ∧ w.cell? ⟨b, (o + i * 9) + 3, none⟩ = some (.int .u16 (r.m 3 : Nat)) ∧ w.cell? ⟨b, (o + i * 9) + 4, none⟩ = some (.int .u16 (r.s 0 : Nat)) ∧ w.cell? ⟨b, (o + i * 9) + 5, none⟩ = some (.int .u16 (r.s 1 : Nat)) ∧ w.cell? ⟨b, (o + i * 9) + 6, none⟩ = some (.int .u16 (r.s 2 : Nat)) ∧ w.cell? ⟨b, (o + i * 9) + 7, none⟩ = some (.int .u16 (r.s 3 : Nat)) ∧ w.cell? ⟨b, (o + i * 9) + 8, none⟩ = some (.int .i64 r.cls) ∧ b < w.heap.size := ⟨hrr 0 _ rfl, hrr 1 _ rfl, hrr 2 _ rfl, hrr 3 _ rfl, hrr 4 _ rfl, hrr 5 _ rfl, hrr 6 _ rfl, hrr 7 _ rfl, hrr 8 _ rfl, hbl⟩
  have w1' := rwv_app h1 g9
  have w2' := rwv_app w1' rmay_8
  have f1' := wf_app hwf (r := r9 r) ⟨hri.m, hri.s⟩
  have f2' := wf_app f1' (r := r8) ⟨fun _ => by simp [r8], fun _ => by simp [r8]⟩
  have q8 := find_8 (rs ++ [r9 r]) h
  rw [q9.1, q9.2, hf, he] at q8
  rw [hf, he] at q9
  have hl1 : (rs ++ [r9 r]).length = rs.length + 1 := by simp
  have hl2 : (rs ++ [r9 r] ++ [r8]).length = rs.length + 2 := by simp
  have KN1 := Lib.hid (fun (z : World) (hz : Below w.heap.size w z) => new_ok' rs (by omega) hwf h1 _ rfl _ c z (hR.below hz))
  have KN2 := Lib.hid (fun (z : World) (a : Option Addr) (c : Nat) (hz : RwV Rl.cells 9 z a (rs ++ [r9 r])) => new_ok' (rs ++ [r9 r]) (by omega) f1' w1' (rs.length + 1) hl1 a c z hz)
  have KN3 := Lib.hid (fun (z : World) (a : Option Addr) (c : Nat) (hz : RwV Rl.cells 9 z a (rs ++ [r9 r] ++ [r8])) => new_ok' (rs ++ [r9 r] ++ [r8]) (by omega) f2' w2' (rs.length + 2) hl2 a c z hz)
  have KF1 := Lib.hid (fun (z : World) (p : Nat) (hz : TB z p rs) => by have := find_c rs p h (by omega) hh hwf z hz; rw [hf, he] at this; exact this)
  have KF2 := Lib.hid (fun (z : World) (p : Nat) (hz : TB z p (rs ++ [r9 r])) => by have := find_c (rs ++ [r9 r]) p h (by omega) hh f1' z hz; rw [q9.1, q9.2] at this; exact this)
  have KF3 := Lib.hid (fun (z : World) (p : Nat) (hz : TB z p (rs ++ [r9 r] ++ [r8])) => by have := find_c (rs ++ [r9 r] ++ [r8]) p h (by omega) hh f2' z hz; rw [q8.1, q8.2] at this; exact this)
  have KW := Lib.hid (fun (z : World) (hz : Below w.heap.size w z) => by have := rwr_c rs (some ⟨b, o, none⟩) c (by omega) hwf z (hR.below hz); rw [h1] at this; exact this)
  have e1 : ((rs.length : Int) == 0) = false := by simp; intro h; rw [h] at hi; cases hi
  have e2 : decide (30 < (rs.length : Int)) = false := by simp; omega
  have hrn : ¬ rs = [] := by intro h; rw [h] at hi; cases hi
  have e3 : decide (n < 0) = false := by simp; omega
  have hS := Lib.hid (fun (z : World) (hz : Below w.heap.size w z) => RwV.src (cells := Rl.cells) rl_of (hR.below hz))
  have hlen := flat_len rl_of rs
  have hone := flat_one rl_of rs
  clear hR hwf hf he hh g9 q9 w1' w2' f1' f2' q8 hrr hri
  have HC9 := Lib.hid hc9
  clear hc9
  go_enter Try.func4, Try.ntmps4
  go_wp2_with (first
    | (go_at_call 14; ((with_reducible refine (KW.out _ (by (repeat' (first | with_reducible exact Below.refl _ _ | with_reducible assumption | ((with_reducible refine Below.drew ?_)) | ((with_reducible refine below_drewN ?_ _)) | ((with_reducible refine Below.alloc ?_ ?_ _); rotate_left; focus (first | omega | (simp; done) | (simp; omega))) | ((with_reducible refine Below.setCell ?_ ?_ _); rotate_left; focus (first | omega | (simp; done) | (simp; omega))) | ((with_reducible refine Below.trans ?_ (Below.mono (by with_reducible assumption) ?_)); rotate_left; focus (first | omega | (simp; done) | (simp; omega))))))).mono ?_); rintro e w1 ⟨rfl, hb⟩; obtain ⟨hcc, hff⟩ := bcell hb; (have hsz := hb.size); (try simp at hsz); have hF : w1.cell? ⟨w.heap.size, 0, none⟩ = some (.int .u16 (h 0 : Nat)) ∧ w1.cell? ⟨w.heap.size, 1, none⟩ = some (.int .u16 (h 1 : Nat)) ∧ w1.cell? ⟨w.heap.size, 2, none⟩ = some (.int .u16 (h 2 : Nat)) ∧ w1.cell? ⟨w.heap.size, 3, none⟩ = some (.int .u16 (h 3 : Nat)) ∧ w.heap.size < w1.heap.size := (by ((repeat' apply And.intro) <;> first | (simp [go_sem, *]; done) | omega | (repeat' (first | with_reducible exact Below.refl _ _ | with_reducible assumption | ((with_reducible refine Below.drew ?_)) | ((with_reducible refine below_drewN ?_ _)) | ((with_reducible refine Below.alloc ?_ ?_ _); rotate_left; focus (first | omega | (simp; done) | (simp; omega))) | ((with_reducible refine Below.setCell ?_ ?_ _); rotate_left; focus (first | omega | (simp; done) | (simp; omega))) | ((with_reducible refine Below.trans ?_ (Below.mono (by with_reducible assumption) ?_)); rotate_left; focus (first | omega | (simp; done) | (simp; omega))))))); go_split_ands; clear hcc hff; have hB : Below w.heap.size w w1 := Below.trans (by (repeat' (first | with_reducible exact Below.refl _ _ | with_reducible assumption | ((with_reducible refine Below.drew ?_)) | ((with_reducible refine below_drewN ?_ _)) | ((with_reducible refine Below.alloc ?_ ?_ _); rotate_left; focus (first | omega | (simp; done) | (simp; omega))) | ((with_reducible refine Below.setCell ?_ ?_ _); rotate_left; focus (first | omega | (simp; done) | (simp; omega))) | ((with_reducible refine Below.trans ?_ (Below.mono (by with_reducible assumption) ?_)); rotate_left; focus (first | omega | (simp; done) | (simp; omega)))))) (hb.mono (by simp)); clear hb))
    | (at_builtin; refine wpList_append_own _ rfl _ _ 22 rfl (w.heap.size + 1) 37 ie (.agg #[.int .u16 0, .int .u16 0, .int .u16 0, .int .u16 0, .int .u16 0, .int .u16 0, .int .u16 0, .int .u16 0, .int .i64 0]) 9 24 Try.underlying22 HI0 HZ0 HZ1 HZ2 rfl (by decide) _ 0 [] rfl (World.ownsRow_nil _ _ _ _) ⟨b, o, none⟩ rs.length c (rs.flatMap Rl.cells) rfl hlen (hS.out _ hB) hone ?qc4 ?qc5 ?qc6 ?_))
  case qc4 => unfold maxLen; omega
  case qc5 => omega
  case qc6 => have := hB.size; omega
  intro v1 w2 hown hgrow hnil
  obtain ⟨ao, cap, rfl⟩ := row_form hown
  have O1 : Only (fun k => w.heap.size + 1 ≤ k) w1 w2 := (only_grown' hgrow).mono (fun k hk => by simp [Value.ownBlock] at hk)
  have hB2 : Below w.heap.size w w2 := O1.below hB hB.size (fun k hk => by omega)
  have hsz2 := hgrow.size
  have hw1 : w.heap.size < w1.heap.size := by assumption
  have hgc : ∀ o, w2.cell? ⟨w.heap.size, o, none⟩ = w1.cell? ⟨w.heap.size, o, none⟩ := fun o => O1.cell hw1 (by omega)
  have hF : w2.cell? ⟨w.heap.size, 0, none⟩ = some (.int .u16 (h 0 : Nat)) ∧ w2.cell? ⟨w.heap.size, 1, none⟩ = some (.int .u16 (h 1 : Nat)) ∧ w2.cell? ⟨w.heap.size, 2, none⟩ = some (.int .u16 (h 2 : Nat)) ∧ w2.cell? ⟨w.heap.size, 3, none⟩ = some (.int .u16 (h 3 : Nat)) ∧ w.heap.size < w2.heap.size := (by ((repeat' apply And.intro) <;> first | (simp [go_sem, *]; done) | omega | (repeat' (first | with_reducible exact Below.refl _ _ | with_reducible assumption | ((with_reducible refine Below.drew ?_)) | ((with_reducible refine below_drewN ?_ _)) | ((with_reducible refine Below.alloc ?_ ?_ _); rotate_left; focus (first | omega | (simp; done) | (simp; omega))) | ((with_reducible refine Below.setCell ?_ ?_ _); rotate_left; focus (first | omega | (simp; done) | (simp; omega))) | ((with_reducible refine Below.trans ?_ (Below.mono (by with_reducible assumption) ?_)); rotate_left; focus (first | omega | (simp; done) | (simp; omega))))))); go_split_ands
  obtain ⟨k0, k1, k2, k3, k4, k5, k6, k7, k8, k9⟩ := HC9.out
  have hcc := (bcell hB2).1
  have hc92 : w2.cell? ⟨b, (o + i * 9), none⟩ = some (.int .u16 (r.m 0 : Nat)) ∧ w2.cell? ⟨b, (o + i * 9) + 1, none⟩ = some (.int .u16 (r.m 1 : Nat)) ∧ w2.cell? ⟨b, (o + i * 9) + 2, none⟩ = some (.int .u16 (r.m 2 : Nat)) ∧ w2.cell? ⟨b, (o + i * 9) + 3, none⟩ = some (.int .u16 (r.m 3 : Nat)) ∧ w2.cell? ⟨b, (o + i * 9) + 4, none⟩ = some (.int .u16 (r.s 0 : Nat)) ∧ w2.cell? ⟨b, (o + i * 9) + 5, none⟩ = some (.int .u16 (r.s 1 : Nat)) ∧ w2.cell? ⟨b, (o + i * 9) + 6, none⟩ = some (.int .u16 (r.s 2 : Nat)) ∧ w2.cell? ⟨b, (o + i * 9) + 7, none⟩ = some (.int .u16 (r.s 3 : Nat)) ∧ w2.cell? ⟨b, (o + i * 9) + 8, none⟩ = some (.int .i64 r.cls) ∧ b < w2.heap.size := ⟨(hcc _ _ hbl).trans k0, (hcc _ _ hbl).trans k1, (hcc _ _ hbl).trans k2, (hcc _ _ hbl).trans k3, (hcc _ _ hbl).trans k4, (hcc _ _ hbl).trans k5, (hcc _ _ hbl).trans k6, (hcc _ _ hbl).trans k7, (hcc _ _ hbl).trans k8, Nat.lt_of_lt_of_le hbl hB2.size⟩
  clear hcc hgc k0 k1 k2 k3 k4 k5 k6 k7 k8 k9
  obtain ⟨k0, k1, k2, k3, k4, k5, k6, k7, k8, k9⟩ := hc92
  clear hgrow O1
  have hownd : w2.drew.ownsRow (w.heap.size + 1) 37 9 (.slice ao rs.length cap) rs.length (rs.flatMap Rl.cells) := row_bel hown (Below.drew (Below.refl _ _))
  have hin : (i : Int) < rs.length := by omega
  go_wp2
  obtain ⟨Cl, hCl⟩ : ∃ Cl : List Value → World → Prop, Cl = ((fun ps wz => ((wz.cell? ⟨w.heap.size, 0, none⟩ = some (.int .u16 (h 0 : Nat)) ∧ wz.cell? ⟨w.heap.size, 1, none⟩ = some (.int .u16 (h 1 : Nat)) ∧ wz.cell? ⟨w.heap.size, 2, none⟩ = some (.int .u16 (h 2 : Nat)) ∧ wz.cell? ⟨w.heap.size, 3, none⟩ = some (.int .u16 (h 3 : Nat)) ∧ w.heap.size < wz.heap.size) ∧ (wz.cell? ⟨b, (o + i * 9), none⟩ = some (.int .u16 (r.m 0 : Nat)) ∧ wz.cell? ⟨b, (o + i * 9) + 1, none⟩ = some (.int .u16 (r.m 1 : Nat)) ∧ wz.cell? ⟨b, (o + i * 9) + 2, none⟩ = some (.int .u16 (r.m 2 : Nat)) ∧ wz.cell? ⟨b, (o + i * 9) + 3, none⟩ = some (.int .u16 (r.m 3 : Nat)) ∧ wz.cell? ⟨b, (o + i * 9) + 4, none⟩ = some (.int .u16 (r.s 0 : Nat)) ∧ wz.cell? ⟨b, (o + i * 9) + 5, none⟩ = some (.int .u16 (r.s 1 : Nat)) ∧ wz.cell? ⟨b, (o + i * 9) + 6, none⟩ = some (.int .u16 (r.s 2 : Nat)) ∧ wz.cell? ⟨b, (o + i * 9) + 7, none⟩ = some (.int .u16 (r.s 3 : Nat)) ∧ wz.cell? ⟨b, (o + i * 9) + 8, none⟩ = some (.int .i64 r.cls) ∧ b < wz.heap.size) ∧ Below w.heap.size w wz) ∧ (match ps with | [] => wz.ownsRow (w.heap.size + 1) 37 9 (.slice ao rs.length cap) rs.length (rs.flatMap Rl.cells) | [sl] => (∃ b', sl = Value.slice (some ⟨b', 0, none⟩) 1 1 ∧ (wz.cell? ⟨b', 0, none⟩ = some (.int .u16 (r.m 0 : Nat)) ∧ wz.cell? ⟨b', 1, none⟩ = some (.int .u16 (r.m 1 : Nat)) ∧ wz.cell? ⟨b', 2, none⟩ = some (.int .u16 (r.m 2 : Nat)) ∧ wz.cell? ⟨b', 3, none⟩ = some (.int .u16 (r.m 3 : Nat)) ∧ wz.cell? ⟨b', 4, none⟩ = some (.int .u16 (r.s 0 : Nat)) ∧ wz.cell? ⟨b', 5, none⟩ = some (.int .u16 (r.s 1 : Nat)) ∧ wz.cell? ⟨b', 6, none⟩ = some (.int .u16 (r.s 2 : Nat)) ∧ wz.cell? ⟨b', 7, none⟩ = some (.int .u16 (r.s 3 : Nat)) ∧ wz.cell? ⟨b', 8, none⟩ = some (.int .i64 9) ∧ b' < wz.heap.size)) ∧ wz.ownsRow (w.heap.size + 1) 37 9 (.slice ao rs.length cap) rs.length (rs.flatMap Rl.cells) | (_ :: v' :: _) => wz.ownsRow (w.heap.size + 1) 37 9 v' (rs.length + 1) ((rs ++ [r9 r]).flatMap Rl.cells)))) := ⟨_, rfl⟩; have HCl := Lib.hid hCl; clear hCl; refine wp_region_eff [18, 19] Cl (by kernel_rfl) (by kernel_rfl) (by rw [HCl.out]; (try simp only [List.nil_append, List.cons_append]); (try dsimp only); ((repeat' apply And.intro) <;> first | (simp [go_sem, *]; done) | omega | (repeat' (first | with_reducible exact Below.refl _ _ | with_reducible assumption | ((with_reducible refine Below.drew ?_)) | ((with_reducible refine below_drewN ?_ _)) | ((with_reducible refine Below.alloc ?_ ?_ _); rotate_left; focus (first | omega | (simp; done) | (simp; omega))) | ((with_reducible refine Below.setCell ?_ ?_ _); rotate_left; focus (first | omega | (simp; done) | (simp; omega))) | ((with_reducible refine Below.trans ?_ (Below.mono (by with_reducible assumption) ?_)); rotate_left; focus (first | omega | (simp; done) | (simp; omega))))))) ?_
  (repeat (first | (refine wE_skip (by rfl) ?_; simp only [Act.put, Nat.reduceAdd, List.setIfInBounds_toArray, List.set_cons_zero, List.set_cons_succ, List.nil_append, List.cons_append]) | (refine wE_open (by rfl) (by rfl) ?_; apply Exists.intro; refine ⟨fun vs wq hw => ?_, ?_⟩; (focus (rw [HCl.out] at hw; (try simp only [List.nil_append, List.cons_append] at hw); (try dsimp only at hw); go_split_ands; go_simp <;> first | with_reducible exact (rfl : Value.bool false = _) | with_reducible exact (rfl : Value.bool true = _) | ((try go_bits) <;> exact rfl))); simp only [Act.put, Nat.reduceAdd, List.setIfInBounds_toArray, List.set_cons_zero, List.set_cons_succ, List.nil_append, List.cons_append]) | (refine wE_open (by rfl) (by rfl) ?_; apply Exists.intro; refine ⟨fun vs wq hw => ?_, ?_⟩; (focus (rw [HCl.out] at hw; (try simp only [List.nil_append, List.cons_append] at hw); (try dsimp only at hw); obtain ⟨hw1, hw2⟩ := hw; go_split_ands; go_simp; fail)); simp only [Act.put, Nat.reduceAdd, List.setIfInBounds_toArray, List.set_cons_zero, List.set_cons_succ, List.nil_append, List.cons_append])))
  refine wE_eff (by rfl) (by rfl) (fun wq hw => ?_) (fun u hu => ?_)
  · rw [HCl.out] at hw; (try simp only [List.nil_append, List.cons_append] at hw); (try dsimp only at hw)
    obtain ⟨⟨⟨j0, j1, j2, j3, j4⟩, ⟨m0, m1, m2, m3, m4, m5, m6, m7, m8, m9⟩, hbl2⟩, ho2⟩ := hw
    have hown2 := row_bel ho2 (Below.alloc (Below.refl _ _) (Nat.le_refl _) (Obj.cells #[.int .u16 (r.m 0 : Nat), .int .u16 (r.m 1 : Nat), .int .u16 (r.m 2 : Nat), .int .u16 (r.m 3 : Nat), .int .u16 (r.s 0 : Nat), .int .u16 (r.s 1 : Nat), .int .u16 (r.s 2 : Nat), .int .u16 (r.s 3 : Nat), .int .i64 9] 37))
    go_simp
    rw [HCl.out]; (try simp only [List.nil_append, List.cons_append]); (try dsimp only)
    refine ⟨⟨by ((repeat' apply And.intro) <;> first | (simp [go_sem, *]; done) | omega | (repeat' (first | with_reducible exact Below.refl _ _ | with_reducible assumption | ((with_reducible refine Below.drew ?_)) | ((with_reducible refine below_drewN ?_ _)) | ((with_reducible refine Below.alloc ?_ ?_ _); rotate_left; focus (first | omega | (simp; done) | (simp; omega))) | ((with_reducible refine Below.setCell ?_ ?_ _); rotate_left; focus (first | omega | (simp; done) | (simp; omega))) | ((with_reducible refine Below.trans ?_ (Below.mono (by with_reducible assumption) ?_)); rotate_left; focus (first | omega | (simp; done) | (simp; omega)))))), by ((repeat' apply And.intro) <;> first | (simp [go_sem, *]; done) | omega | (repeat' (first | with_reducible exact Below.refl _ _ | with_reducible assumption | ((with_reducible refine Below.drew ?_)) | ((with_reducible refine below_drewN ?_ _)) | ((with_reducible refine Below.alloc ?_ ?_ _); rotate_left; focus (first | omega | (simp; done) | (simp; omega))) | ((with_reducible refine Below.setCell ?_ ?_ _); rotate_left; focus (first | omega | (simp; done) | (simp; omega))) | ((with_reducible refine Below.trans ?_ (Below.mono (by with_reducible assumption) ?_)); rotate_left; focus (first | omega | (simp; done) | (simp; omega)))))), by ((repeat' apply And.intro) <;> first | (simp [go_sem, *]; done) | omega | (repeat' (first | with_reducible exact Below.refl _ _ | with_reducible assumption | ((with_reducible refine Below.drew ?_)) | ((with_reducible refine below_drewN ?_ _)) | ((with_reducible refine Below.alloc ?_ ?_ _); rotate_left; focus (first | omega | (simp; done) | (simp; omega))) | ((with_reducible refine Below.setCell ?_ ?_ _); rotate_left; focus (first | omega | (simp; done) | (simp; omega))) | ((with_reducible refine Below.trans ?_ (Below.mono (by with_reducible assumption) ?_)); rotate_left; focus (first | omega | (simp; done) | (simp; omega))))))⟩, ⟨wq.heap.size, rfl, by ((repeat' apply And.intro) <;> first | (simp [go_sem, *]; done) | omega | (repeat' (first | with_reducible exact Below.refl _ _ | with_reducible assumption | ((with_reducible refine Below.drew ?_)) | ((with_reducible refine below_drewN ?_ _)) | ((with_reducible refine Below.alloc ?_ ?_ _); rotate_left; focus (first | omega | (simp; done) | (simp; omega))) | ((with_reducible refine Below.setCell ?_ ?_ _); rotate_left; focus (first | omega | (simp; done) | (simp; omega))) | ((with_reducible refine Below.trans ?_ (Below.mono (by with_reducible assumption) ?_)); rotate_left; focus (first | omega | (simp; done) | (simp; omega))))))⟩, hown2⟩
  obtain ⟨wz, hz⟩ := hu
  rw [HCl.out] at hz
  (try simp only [List.nil_append, List.cons_append] at hz)
  (try dsimp only at hz)
  obtain ⟨_, ⟨b', rfl, hz1⟩, hz2⟩ := hz
  clear hz1 hz2
  simp only [Act.put, Nat.reduceAdd, List.setIfInBounds_toArray, List.set_cons_zero, List.set_cons_succ, List.nil_append, List.cons_append]
  refine wE_eff (by rfl) (by rfl) (fun wq hw => ?_) (fun u hu => ?_)
  · rw [HCl.out] at hw; (try simp only [List.nil_append, List.cons_append] at hw); (try dsimp only at hw)
    obtain ⟨⟨⟨j0, j1, j2, j3, j4⟩, ⟨m0, m1, m2, m3, m4, m5, m6, m7, m8, m9⟩, hbl2⟩, ⟨bq, hbe, n0, n1, n2, n3, n4, n5, n6, n7, n8, n9⟩, ho2⟩ := hw
    obtain rfl : b' = bq := by simpa using hbe
    obtain ⟨v', w', hr, hown', hgrow, _⟩ := run_append_own (P := Try.prog) wq (w.heap.size + 1) 22 22 37 ie (.agg #[.int .u16 0, .int .u16 0, .int .u16 0, .int .u16 0, .int .u16 0, .int .u16 0, .int .u16 0, .int .u16 0, .int .i64 0]) 9 24 Try.underlying22 HI0 HZ0 HZ1 HZ2 rfl (by decide) (.slice ao rs.length cap) rs.length (rs.flatMap Rl.cells) ho2 ⟨b', 0, none⟩ 1 1 (Rl.cells (r9 r)) rfl (fun j u hu => by unfold Rl.cells r9 at hu; rcases j with _ | _ | _ | _ | _ | _ | _ | _ | _ | j <;> simp at hu <;> (try subst hu) <;> simp [Addr.add, n0, n1, n2, n3, n4, n5, n6, n7, n8]) (Rl.one (r9 r)) (by unfold maxLen; omega) (by omega) (by omega)
    have hob := fun k (hk : (Value.slice ao rs.length cap).ownBlock = some k) => (row_blk ho2 k hk).1
    have hne : some w.heap.size ≠ (Value.slice ao rs.length cap).ownBlock := fun e => by have := hob _ e.symm; omega
    have hnb : some b ≠ (Value.slice ao rs.length cap).ownBlock := fun e => by have := hob _ e.symm; omega
    have hsg := hgrow.size
    have O3 : Only (fun k => w.heap.size + 1 ≤ k) wq w' := (only_grown' hgrow).mono (fun k hk => hob k hk)
    refine eff_app (.tmp 42) (.tmp 60) 22 rfl rfl rfl hr ?_
    rw [HCl.out]; (try simp only [List.nil_append, List.cons_append]); (try dsimp only)
    refine ⟨⟨⟨hgrow.cell j0 hne, hgrow.cell j1 hne, hgrow.cell j2 hne, hgrow.cell j3 hne, by omega⟩, ⟨hgrow.cell m0 hnb, hgrow.cell m1 hnb, hgrow.cell m2 hnb, hgrow.cell m3 hnb, hgrow.cell m4 hnb, hgrow.cell m5 hnb, hgrow.cell m6 hnb, hgrow.cell m7 hnb, hgrow.cell m8 hnb, by omega⟩, O3.below hbl2 hbl2.size (fun k hk => by omega)⟩, ?_⟩
    rw [List.flatMap_append]
    simpa using hown'
  clear hu
  simp only [Act.put, Nat.reduceAdd, List.setIfInBounds_toArray, List.set_cons_zero, List.set_cons_succ, List.nil_append, List.cons_append]
  (repeat (first | (refine wE_skip (by rfl) ?_; simp only [Act.put, Nat.reduceAdd, List.setIfInBounds_toArray, List.set_cons_zero, List.set_cons_succ, List.nil_append, List.cons_append]) | (refine wE_open (by rfl) (by rfl) ?_; apply Exists.intro; refine ⟨fun vs wq hw => ?_, ?_⟩; (focus (rw [HCl.out] at hw; (try simp only [List.nil_append, List.cons_append] at hw); (try dsimp only at hw); go_split_ands; go_simp <;> first | with_reducible exact (rfl : Value.bool false = _) | with_reducible exact (rfl : Value.bool true = _) | ((try go_bits) <;> exact rfl))); simp only [Act.put, Nat.reduceAdd, List.setIfInBounds_toArray, List.set_cons_zero, List.set_cons_succ, List.nil_append, List.cons_append])))
  refine wE_nil ?_
  intro w4 hw
  rw [HCl.out] at hw; (try simp only [List.nil_append, List.cons_append] at hw); (try dsimp only at hw)
  clear HCl hownd hown
  obtain ⟨⟨⟨j0, j1, j2, j3, j4⟩, hm, hB4⟩, ho4⟩ := hw
  clear hm k0 k1 k2 k3 k4 k5 k6 k7 k8 k9 hB hB2
  have hB := hB4
  clear hB4
  rw [← hl1] at ho4
  obtain ⟨a1, c1, hv1, hR1, -, -, hal⟩ := RwV.of_own rl_of ho4
  rw [hl1] at hv1
  subst hv1
  clear ho4 hal
  obtain ⟨b1, o1, rfl, hb1, -⟩ := hR1 0 (by rw [hl1]; omega)
  clear hb1
  have hlen1 : ((rs ++ [r9 r]).flatMap Rl.cells).length = (rs.length + 1) * 9 := by rw [flat_len rl_of, hl1]
  have hone1 := flat_one rl_of (rs ++ [r9 r])
  go_wp2_with (first
    | (go_at_call 13; ((with_reducible refine (KN1.out _ hB).mono ?_); rintro e w5 ⟨⟨p1, rfl, hT1⟩, hb⟩; obtain ⟨hcc, hff⟩ := bcell hb; (have hsz := hb.size); (try simp at hsz); have hF : w5.cell? ⟨w.heap.size, 0, none⟩ = some (.int .u16 (h 0 : Nat)) ∧ w5.cell? ⟨w.heap.size, 1, none⟩ = some (.int .u16 (h 1 : Nat)) ∧ w5.cell? ⟨w.heap.size, 2, none⟩ = some (.int .u16 (h 2 : Nat)) ∧ w5.cell? ⟨w.heap.size, 3, none⟩ = some (.int .u16 (h 3 : Nat)) ∧ w.heap.size < w5.heap.size := (by ((repeat' apply And.intro) <;> first | (simp [go_sem, *]; done) | omega | (repeat' (first | with_reducible exact Below.refl _ _ | with_reducible assumption | ((with_reducible refine Below.drew ?_)) | ((with_reducible refine below_drewN ?_ _)) | ((with_reducible refine Below.alloc ?_ ?_ _); rotate_left; focus (first | omega | (simp; done) | (simp; omega))) | ((with_reducible refine Below.setCell ?_ ?_ _); rotate_left; focus (first | omega | (simp; done) | (simp; omega))) | ((with_reducible refine Below.trans ?_ (Below.mono (by with_reducible assumption) ?_)); rotate_left; focus (first | omega | (simp; done) | (simp; omega))))))); go_split_ands; clear hcc hff; replace hR1 := RwV.below hR1 hb; replace hB := hB.trans (hb.mono hB.size); clear hb))
    | (go_at_call 13; ((with_reducible refine (KN2.out _ _ _ hR1).mono ?_); rintro e w6 ⟨⟨p2, rfl, hT2⟩, hb⟩; obtain ⟨hcc, hff⟩ := bcell hb; (have hsz := hb.size); (try simp at hsz); have hF : w6.cell? ⟨w.heap.size, 0, none⟩ = some (.int .u16 (h 0 : Nat)) ∧ w6.cell? ⟨w.heap.size, 1, none⟩ = some (.int .u16 (h 1 : Nat)) ∧ w6.cell? ⟨w.heap.size, 2, none⟩ = some (.int .u16 (h 2 : Nat)) ∧ w6.cell? ⟨w.heap.size, 3, none⟩ = some (.int .u16 (h 3 : Nat)) ∧ w.heap.size < w6.heap.size := (by ((repeat' apply And.intro) <;> first | (simp [go_sem, *]; done) | omega | (repeat' (first | with_reducible exact Below.refl _ _ | with_reducible assumption | ((with_reducible refine Below.drew ?_)) | ((with_reducible refine below_drewN ?_ _)) | ((with_reducible refine Below.alloc ?_ ?_ _); rotate_left; focus (first | omega | (simp; done) | (simp; omega))) | ((with_reducible refine Below.setCell ?_ ?_ _); rotate_left; focus (first | omega | (simp; done) | (simp; omega))) | ((with_reducible refine Below.trans ?_ (Below.mono (by with_reducible assumption) ?_)); rotate_left; focus (first | omega | (simp; done) | (simp; omega))))))); go_split_ands; clear hcc hff; replace hR1 := RwV.below hR1 hb; replace hT1 := hT1.below hb; replace hB := hB.trans (hb.mono hB.size); clear hb))
    | (go_at_call 15; ((with_reducible refine (KF1.out _ _ hT1).mono ?_); rintro e w7 ⟨rfl, hb⟩; obtain ⟨hcc, hff⟩ := bcell hb; (have hsz := hb.size); (try simp at hsz); have hF : w7.cell? ⟨w.heap.size, 0, none⟩ = some (.int .u16 (h 0 : Nat)) ∧ w7.cell? ⟨w.heap.size, 1, none⟩ = some (.int .u16 (h 1 : Nat)) ∧ w7.cell? ⟨w.heap.size, 2, none⟩ = some (.int .u16 (h 2 : Nat)) ∧ w7.cell? ⟨w.heap.size, 3, none⟩ = some (.int .u16 (h 3 : Nat)) ∧ w.heap.size < w7.heap.size := (by ((repeat' apply And.intro) <;> first | (simp [go_sem, *]; done) | omega | (repeat' (first | with_reducible exact Below.refl _ _ | with_reducible assumption | ((with_reducible refine Below.drew ?_)) | ((with_reducible refine below_drewN ?_ _)) | ((with_reducible refine Below.alloc ?_ ?_ _); rotate_left; focus (first | omega | (simp; done) | (simp; omega))) | ((with_reducible refine Below.setCell ?_ ?_ _); rotate_left; focus (first | omega | (simp; done) | (simp; omega))) | ((with_reducible refine Below.trans ?_ (Below.mono (by with_reducible assumption) ?_)); rotate_left; focus (first | omega | (simp; done) | (simp; omega))))))); go_split_ands; clear hcc hff; replace hR1 := RwV.below hR1 hb; replace hT1 := hT1.below hb; replace hT2 := hT2.below hb; replace hB := hB.trans (hb.mono hB.size); clear hb))
    | (go_at_call 15; ((with_reducible refine (KF2.out _ _ hT2).mono ?_); rintro e w8 ⟨rfl, hb⟩; obtain ⟨hcc, hff⟩ := bcell hb; (have hsz := hb.size); (try simp at hsz); have hF : w8.cell? ⟨w.heap.size, 0, none⟩ = some (.int .u16 (h 0 : Nat)) ∧ w8.cell? ⟨w.heap.size, 1, none⟩ = some (.int .u16 (h 1 : Nat)) ∧ w8.cell? ⟨w.heap.size, 2, none⟩ = some (.int .u16 (h 2 : Nat)) ∧ w8.cell? ⟨w.heap.size, 3, none⟩ = some (.int .u16 (h 3 : Nat)) ∧ w.heap.size < w8.heap.size := (by ((repeat' apply And.intro) <;> first | (simp [go_sem, *]; done) | omega | (repeat' (first | with_reducible exact Below.refl _ _ | with_reducible assumption | ((with_reducible refine Below.drew ?_)) | ((with_reducible refine below_drewN ?_ _)) | ((with_reducible refine Below.alloc ?_ ?_ _); rotate_left; focus (first | omega | (simp; done) | (simp; omega))) | ((with_reducible refine Below.setCell ?_ ?_ _); rotate_left; focus (first | omega | (simp; done) | (simp; omega))) | ((with_reducible refine Below.trans ?_ (Below.mono (by with_reducible assumption) ?_)); rotate_left; focus (first | omega | (simp; done) | (simp; omega))))))); go_split_ands; clear hcc hff; replace hR1 := RwV.below hR1 hb; replace hT1 := hT1.below hb; replace hT2 := hT2.below hb; replace hB := hB.trans (hb.mono hB.size); clear hb))
    | (at_builtin; refine wpList_append_own _ rfl _ _ 22 rfl (w.heap.size + 1) 37 ie (.agg #[.int .u16 0, .int .u16 0, .int .u16 0, .int .u16 0, .int .u16 0, .int .u16 0, .int .u16 0, .int .u16 0, .int .i64 0]) 9 24 Try.underlying22 HI0 HZ0 HZ1 HZ2 rfl (by decide) _ 0 [] rfl (World.ownsRow_nil _ _ _ _) ⟨b1, o1, none⟩ (rs.length + 1) c1 ((rs ++ [r9 r]).flatMap Rl.cells) rfl hlen1 (RwV.src (cells := Rl.cells) rl_of hR1) hone1 ?qc4 ?qc5 ?qc6 ?_))
  case qc4 => unfold maxLen; omega
  case qc5 => omega
  case qc6 => omega
  intro v2 w9 hown hgrow hnil
  replace hown : w9.ownsRow (w.heap.size + 1) 37 9 v2 (rs.length + 1) ((rs ++ [r9 r]).flatMap Rl.cells) := by rw [List.flatMap_append]; simpa using hown
  obtain ⟨ao2, cap2, rfl⟩ := row_form hown
  have O1 : Only (fun k => w.heap.size + 1 ≤ k) w8 w9 := (only_grown' hgrow).mono (fun k hk => by simp [Value.ownBlock] at hk)
  replace hB : Below w.heap.size w w9 := O1.below hB hB.size (fun k hk => by omega)
  have hsz9 := hgrow.size
  have hw8 : w.heap.size < w8.heap.size := by assumption
  have hgc : ∀ o, w9.cell? ⟨w.heap.size, o, none⟩ = w8.cell? ⟨w.heap.size, o, none⟩ := fun o => O1.cell hw8 (by omega)
  have hF : w9.cell? ⟨w.heap.size, 0, none⟩ = some (.int .u16 (h 0 : Nat)) ∧ w9.cell? ⟨w.heap.size, 1, none⟩ = some (.int .u16 (h 1 : Nat)) ∧ w9.cell? ⟨w.heap.size, 2, none⟩ = some (.int .u16 (h 2 : Nat)) ∧ w9.cell? ⟨w.heap.size, 3, none⟩ = some (.int .u16 (h 3 : Nat)) ∧ w.heap.size < w9.heap.size := (by ((repeat' apply And.intro) <;> first | (simp [go_sem, *]; done) | omega | (repeat' (first | with_reducible exact Below.refl _ _ | with_reducible assumption | ((with_reducible refine Below.drew ?_)) | ((with_reducible refine below_drewN ?_ _)) | ((with_reducible refine Below.alloc ?_ ?_ _); rotate_left; focus (first | omega | (simp; done) | (simp; omega))) | ((with_reducible refine Below.setCell ?_ ?_ _); rotate_left; focus (first | omega | (simp; done) | (simp; omega))) | ((with_reducible refine Below.trans ?_ (Below.mono (by with_reducible assumption) ?_)); rotate_left; focus (first | omega | (simp; done) | (simp; omega))))))); go_split_ands
  have hw9 : w.heap.size < w9.heap.size := by omega
  clear hgc O1 hgrow hR1 hT1 hT2
  go_wp2_with (at_builtin; refine wpList_append_own _ rfl _ _ 22 rfl (w.heap.size + 1) 37 ie (.agg #[.int .u16 0, .int .u16 0, .int .u16 0, .int .u16 0, .int .u16 0, .int .u16 0, .int .u16 0, .int .u16 0, .int .i64 0]) 9 24 Try.underlying22 HI0 HZ0 HZ1 HZ2 rfl (by decide) _ (rs.length + 1) ((rs ++ [r9 r]).flatMap Rl.cells) rfl (row_bel hown (Below.alloc (Below.refl _ _) (Nat.le_refl _) _)) ⟨_, 0, none⟩ 1 1 (Rl.cells r8) rfl rfl ?qc2 (Rl.one r8) ?qc4 ?qc5 ?qc6 ?_)
  case qc2 => (intro j u hu; unfold Rl.cells r8 at hu; rcases j with _ | _ | _ | _ | _ | _ | _ | _ | _ | j <;> simp at hu <;> (try subst hu) <;> simp [Addr.add, go_sem])
  case qc4 => unfold maxLen; omega
  case qc5 => omega
  case qc6 => simp; omega
  intro v3 w10 hown3 hgrow3 hnil3
  have hob := fun k (hk : (Value.slice ao2 (rs.length + 1) cap2).ownBlock = some k) => (row_blk hown k hk).1
  have O3 : Only (fun k => w.heap.size + 1 ≤ k) _ w10 := (only_grown' hgrow3).mono (fun k hk => hob k hk)
  have hBA : Below w.heap.size w _ := Below.alloc hB hB.size (Obj.cells #[.int .u16 0, .int .u16 0, .int .u16 0, .int .u16 0, .int .u16 0, .int .u16 0, .int .u16 0, .int .u16 0, .int .i64 8] 37)
  replace hB : Below w.heap.size w w10 := O3.below hBA hBA.size (fun k hk => by omega)
  have hgc : ∀ o, w10.cell? ⟨w.heap.size, o, none⟩ = w9.cell? ⟨w.heap.size, o, none⟩ := fun o => (O3.cell (by simp; omega) (by omega)).trans (by simp [go_sem, hw9])
  have hsz10 := hgrow3.size
  simp at hsz10
  have hF : w10.cell? ⟨w.heap.size, 0, none⟩ = some (.int .u16 (h 0 : Nat)) ∧ w10.cell? ⟨w.heap.size, 1, none⟩ = some (.int .u16 (h 1 : Nat)) ∧ w10.cell? ⟨w.heap.size, 2, none⟩ = some (.int .u16 (h 2 : Nat)) ∧ w10.cell? ⟨w.heap.size, 3, none⟩ = some (.int .u16 (h 3 : Nat)) ∧ w.heap.size < w10.heap.size := (by ((repeat' apply And.intro) <;> first | (simp [go_sem, *]; done) | omega | (repeat' (first | with_reducible exact Below.refl _ _ | with_reducible assumption | ((with_reducible refine Below.drew ?_)) | ((with_reducible refine below_drewN ?_ _)) | ((with_reducible refine Below.alloc ?_ ?_ _); rotate_left; focus (first | omega | (simp; done) | (simp; omega))) | ((with_reducible refine Below.setCell ?_ ?_ _); rotate_left; focus (first | omega | (simp; done) | (simp; omega))) | ((with_reducible refine Below.trans ?_ (Below.mono (by with_reducible assumption) ?_)); rotate_left; focus (first | omega | (simp; done) | (simp; omega))))))); go_split_ands
  have h3' : w10.ownsRow (w.heap.size + 1) 37 9 v3 (rs ++ [r9 r] ++ [r8]).length ((rs ++ [r9 r] ++ [r8]).flatMap Rl.cells) := by
    rw [hl2, List.flatMap_append (xs := rs ++ [r9 r])]
    simpa using hown3
  obtain ⟨a3, c3, hv3, hR3, -, -, -⟩ := RwV.of_own rl_of h3'
  rw [hl2] at hv3
  subst hv3
  clear hgc O3 hBA hown hown3 hgrow3 hnil hnil3 h3' hob
  rcases hfe with ⟨rfl, hf1⟩ | ⟨rfl, rfl⟩
  · simp only [if_true] at KF3
    have e5 : (f == f) = true := by simp
    go_wp2_with (first
      | (go_at_call 13; ((with_reducible refine (KN3.out _ _ _ hR3).mono ?_); rintro e w11 ⟨⟨p3, rfl, hT3⟩, hb⟩; obtain ⟨hcc, hff⟩ := bcell hb; (have hsz := hb.size); (try simp at hsz); have hF : w11.cell? ⟨w.heap.size, 0, none⟩ = some (.int .u16 (h 0 : Nat)) ∧ w11.cell? ⟨w.heap.size, 1, none⟩ = some (.int .u16 (h 1 : Nat)) ∧ w11.cell? ⟨w.heap.size, 2, none⟩ = some (.int .u16 (h 2 : Nat)) ∧ w11.cell? ⟨w.heap.size, 3, none⟩ = some (.int .u16 (h 3 : Nat)) ∧ w.heap.size < w11.heap.size := (by ((repeat' apply And.intro) <;> first | (simp [go_sem, *]; done) | omega | (repeat' (first | with_reducible exact Below.refl _ _ | with_reducible assumption | ((with_reducible refine Below.drew ?_)) | ((with_reducible refine below_drewN ?_ _)) | ((with_reducible refine Below.alloc ?_ ?_ _); rotate_left; focus (first | omega | (simp; done) | (simp; omega))) | ((with_reducible refine Below.setCell ?_ ?_ _); rotate_left; focus (first | omega | (simp; done) | (simp; omega))) | ((with_reducible refine Below.trans ?_ (Below.mono (by with_reducible assumption) ?_)); rotate_left; focus (first | omega | (simp; done) | (simp; omega))))))); go_split_ands; clear hcc hff; replace hB := hB.trans (hb.mono hB.size); clear hb))
      | (go_at_call 15; ((with_reducible refine (KF3.out _ _ hT3).mono ?_); rintro e w12 ⟨rfl, hb⟩; replace hB := hB.trans (hb.mono hB.size); clear hb))
      | (go_at_call 12; ((with_reducible refine (KS.out _).mono ?_); rintro e w13 ⟨rfl, hb⟩; replace hB := hB.trans (hb.mono hB.size); clear hb)))
    go_ret
    exact ⟨rfl, hB⟩
  · rw [if_neg (by decide)] at KF3
    go_wp2_with (first
      | (go_at_call 13; ((with_reducible refine (KN3.out _ _ _ hR3).mono ?_); rintro e w11 ⟨⟨p3, rfl, hT3⟩, hb⟩; obtain ⟨hcc, hff⟩ := bcell hb; (have hsz := hb.size); (try simp at hsz); have hF : w11.cell? ⟨w.heap.size, 0, none⟩ = some (.int .u16 (h 0 : Nat)) ∧ w11.cell? ⟨w.heap.size, 1, none⟩ = some (.int .u16 (h 1 : Nat)) ∧ w11.cell? ⟨w.heap.size, 2, none⟩ = some (.int .u16 (h 2 : Nat)) ∧ w11.cell? ⟨w.heap.size, 3, none⟩ = some (.int .u16 (h 3 : Nat)) ∧ w.heap.size < w11.heap.size := (by ((repeat' apply And.intro) <;> first | (simp [go_sem, *]; done) | omega | (repeat' (first | with_reducible exact Below.refl _ _ | with_reducible assumption | ((with_reducible refine Below.drew ?_)) | ((with_reducible refine below_drewN ?_ _)) | ((with_reducible refine Below.alloc ?_ ?_ _); rotate_left; focus (first | omega | (simp; done) | (simp; omega))) | ((with_reducible refine Below.setCell ?_ ?_ _); rotate_left; focus (first | omega | (simp; done) | (simp; omega))) | ((with_reducible refine Below.trans ?_ (Below.mono (by with_reducible assumption) ?_)); rotate_left; focus (first | omega | (simp; done) | (simp; omega))))))); go_split_ands; clear hcc hff; replace hB := hB.trans (hb.mono hB.size); clear hb))
      | (go_at_call 15; ((with_reducible refine (KF3.out _ _ hT3).mono ?_); rintro e w12 ⟨rfl, hb⟩; replace hB := hB.trans (hb.mono hB.size); clear hb))
      | (go_at_call 12; ((with_reducible refine (KS.out _).mono ?_); rintro e w13 ⟨rfl, hb⟩; replace hB := hB.trans (hb.mono hB.size); clear hb)))
    go_ret
    exact ⟨rfl, hB⟩
end Go.Proofs.Ytkbglhkhhoakgaa
