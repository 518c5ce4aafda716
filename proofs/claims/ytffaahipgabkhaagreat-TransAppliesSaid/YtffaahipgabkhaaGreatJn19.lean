/- Joined texts. -/
import Derived.Test.YtffaahipgabkhaaGreatJn0
import Derived.Test.YtffaahipgabkhaaGreatJn2
import Derived.Test.YtffaahipgabkhaaGreatJn5
import Derived.Test.YtffaahipgabkhaaGreatJn13
import Derived.Test.YtffaahipgabkhaaGreatJn18
import Derived.Lib.SliceRun
import Derived.Shelf.SlicesE.Compact
import Derived.Ground.SlgnProg
set_option linter.unusedVariables false
set_option linter.unusedSimpArgs false
set_option maxRecDepth 100000
set_option maxHeartbeats 16000000
section
namespace Go.Proofs.YtffaahipgabkhaaGreat
open Go.RowKit Fg Reg
theorem results_var {P : Program} {fn : Func} {s : Nat} {T : TypeId} {w : World} (hr : fn.results = #[.cell s T]) (tmps : Array Value) (g : Nat) (hs : tmps.getD s undef = .pointer (some ⟨g, 0, none⟩)) (cells : Array Value) (d : TypeDesc) (hv : VR w g T cells)
  (hu : P.underlying T = some d) (hd : d.isRow = true) (hi : (P.info? T).map (·.size) = some cells.size) : (results fn tmps).run P w = .ok (.agg cells) w := by
 have h := run_loadVar_mid (P := P) w g 0 T cells.toList d hv.range hu hd (by simpa using hi)
 have hs' : tmps[s]?.getD undef = .pointer (some ⟨g, 0, none⟩) := by simpa using hs
 unfold results
 rw [hr]
 simp [Sem.run_bind, Sem.run_pure, Result.andThen_ok, asAddr, hs', h]
theorem VR.grown2 {z z' : World} {p : Nat} {ty : TypeId} {cs : Array Value} {row : Option Nat} (h : VR z p ty cs) (hg : z.grownBy z' row) (hne : row ≠ some p) : VR z' p ty cs := h.frame (hg.block p h.lt fun e => hne e.symm)
theorem news_new (w : World) (cs : List Value) (t : TypeId) : ∀ (j : Nat) (u : Value), cs[j]? = some u → (w.alloc (.cells cs.toArray t)).cell? ((⟨w.heap.size, 0, none⟩ : Addr).add j) = some u := fun j u hu => by
 rw [Addr.add_mid, Nat.zero_add]
 exact (VR.new w cs.toArray t).cell j (by simpa using hu)
theorem own_rwv {α : Type} {cells : α → List Value} {s : Nat} (hs : ∀ x, (cells x).length = s) {w : World} {base n c : Nat} {e : TypeId} {ao : Option Addr} {X : List α} (h : w.ownsRow base e s (.slice ao n c) n (X.flatMap cells)) (hn : X.length = n) : RwV cells s w ao X := fun k hk => by
 rcases h.2 with ⟨_, h0⟩ | ⟨g, cap, cur, hv, hb, hg, hc, hm, hz, ht⟩
 ·omega
 ·simp only [Value.slice.injEq] at hv
  obtain ⟨rfl, -, -⟩ := hv
  refine ⟨g, 0, rfl, (Array.getElem?_eq_some_iff.1 hg).1, fun j v hj => ?_⟩
  rw [cell_of_row w g (0 + k * s + j) cur _ _ hg, Nat.zero_add, ← Array.getElem?_toList]
  have hjl : j < s := by rw [← hs X[k]]; exact (List.getElem?_eq_some_iff.1 hj).1
  have hks : k * s + j < n * s := by
   have : (k + 1) * s ≤ n * s := Nat.mul_le_mul_right s (by omega)
   rw [Nat.add_mul] at this
   omega
  have h1 : (cur.toList.take (n * s))[k * s + j]? = cur.toList[k * s + j]? := by rw [List.getElem?_take, if_pos hks]
  rw [← h1, ht]
  clear h1 ht hz hg hks
  induction X generalizing k n with
  | nil => exact absurd hk (Nat.not_lt_zero _)
  | cons x X ih =>
   rw [List.flatMap_cons]
   cases k with
   | zero => rw [List.getElem?_append_left (by rw [hs]; omega), Nat.zero_mul, Nat.zero_add]; exact hj
   | succ k =>
    rw [List.getElem?_append_right (by rw [hs, Nat.add_mul]; omega), hs, show (k + 1) * s + j - s = k * s + j by rw [Nat.add_mul]; omega]
    have hk2 : k < X.length := by simpa using hk
    have go : ∀ (Y : List α) (i : Nat) (hi : i < Y.length), (cells Y[i])[j]? = some v → (Y.flatMap cells)[i * s + j]? = some v := by
     intro Y
     induction Y with
     | nil => intro i hi; exact absurd hi (Nat.not_lt_zero _)
     | cons y Y ih2 =>
      intro i hi hv2
      rw [List.flatMap_cons]
      cases i with
      | zero => rw [List.getElem?_append_left (by rw [hs]; omega), Nat.zero_mul, Nat.zero_add]; exact hv2
      | succ i =>
       rw [List.getElem?_append_right (by rw [hs, Nat.add_mul]; omega), hs, show (i + 1) * s + j - s = i * s + j by rw [Nat.add_mul]; omega]
       exact ih2 i (by simpa using hi) (by simpa using hv2)
    exact go X k hk2 (by simpa using hj)
theorem RwV.map_only {α : Type} {cells : α → List Value} {s : Nat} (hs : ∀ x, 0 < (cells x).length) {z z' : World} {ao : Option Addr} {X : List α} (h : RwV cells s z ao X) {mb : Nat} (hm : ∃ es ck, z.heap[mb]? = some (.map es ck)) (ho : Only (fun k => k = mb) z z') : RwV cells s z' ao X := fun k hk => by
 obtain ⟨b, o, e, h1, h2⟩ := h k hk
 have hne : b ≠ mb := by
  rintro rfl
  obtain ⟨es, ck, hb⟩ := hm
  have := h2 0 _ (List.getElem?_eq_getElem (hs _))
  simp [World.cell?, hb] at this
 exact ⟨b, o, e, Nat.lt_of_lt_of_le h1 ho.size, fun j v hv => by rw [World.cell?_of_block (ho.block b h1 hne)]; exact h2 j v hv⟩
end Go.Proofs.YtffaahipgabkhaaGreat
end
section
namespace Go.Proofs.YtffaahipgabkhaaGreat
open Go.RowKit Fg Reg Go.Maps
attribute [local irreducible] Reg.wE VR
theorem tsame_c {z : World} {va vb : Value} {f g : Int → Option Cls} {L M : List Int} (ha : TV z va f L) (hb : TV z vb g M) {x : Int} (hx : iok x) :
  Calls Tryz.prog 36 #[va, vb, .int .i64 x] z fun ee w' => ee = .returned (.bool (tsm f g x)) ∧ Below z.heap.size z w' := by
 have KA := Lib.hid (tget_c ha hx)
 have KB := Lib.hid (fun (w : World) (h : Below z.heap.size z w) => tget_c (hb.below h) hx)
 have ALL := Lib.hid cl_alloc
 have INF := Lib.hid cl_info
 have ONE := Lib.hid cla_one
 have EQ := eqClD (gcl (f x)) (gcl (g x))
 obtain ⟨r, hr⟩ : ∃ r, tsm f g x = r := ⟨_, rfl⟩
 obtain ⟨q, hq⟩ : ∃ q, clEq (gcl (f x)) (gcl (g x)) = q := ⟨_, rfl⟩
 obtain ⟨C, hC⟩ : ∃ C, gcl (f x) = C := ⟨_, rfl⟩
 obtain ⟨D, hD⟩ : ∃ D, gcl (g x) = D := ⟨_, rfl⟩
 have hrq : r = ((f x).isSome && ((g x).isSome && q)) := by
  rw [← hr, ← hq]
  unfold tsm
  cases f x with
  | none => rfl
  | some c =>
   cases g x with
   | none => rfl
   | some d => rfl
 rw [hr]
 rw [hq] at EQ
 rw [hC, hD] at EQ
 rw [hC] at KA
 rw [hD] at KB
 obtain ⟨s1, h1⟩ : ∃ s, (f x).isSome = s := ⟨_, rfl⟩
 obtain ⟨s2, h2⟩ : ∃ s, (g x).isSome = s := ⟨_, rfl⟩
 rw [h1] at KA hrq
 rw [h2] at KB hrq
 clear ha hb hr hq hC hD h1 h2
 have HRQ := Lib.hid hrq
 clear hrq
 cases s1 <;> cases s2 <;> cases q
 all_goals
  (go_enter Tryz.func36, Tryz.ntmps36
   go_wp2_with (first
   | (refine wpList_var_get_g 48 _ rfl _ #[.int .i64 C.id, .int .i64 C.par, .bool C.leaf, .int .u64 C.ra, .int .u64 C.rb, .int .u64 C.rc, .int .u64 C.la, .int .u64 C.lb, .int .u64 C.lc, .int .u64 C.ua, .int .u64 C.ub, .int .u64 C.uc, .int .i64 C.pk, .int .i64 C.bt] _ HC4.out rfl Tryz.underlying48 rfl INF.out (by rfl) ?_)
   | (refine wpList_var_get_g 48 _ rfl _ #[.int .i64 D.id, .int .i64 D.par, .bool D.leaf, .int .u64 D.ra, .int .u64 D.rb, .int .u64 D.rc, .int .u64 D.la, .int .u64 D.lb, .int .u64 D.lc, .int .u64 D.ua, .int .u64 D.ub, .int .u64 D.uc, .int .i64 D.pk, .int .i64 D.bt] _ HD4.out rfl Tryz.underlying48 rfl INF.out (by rfl) ?_)
   | go_guarded
   | (refine wpList_var_new rfl rfl 48 #[.int .i64 0, .int .i64 0, .bool false, .int .u64 0, .int .u64 0, .int .u64 0, .int .u64 0, .int .u64 0, .int .u64 0, .int .u64 0, .int .u64 0, .int .u64 0, .int .i64 0, .int .i64 0] ALL.out rfl _ _ rfl #[.int .i64 D.id, .int .i64 D.par, .bool D.leaf, .int .u64 D.ra, .int .u64 D.rb, .int .u64 D.rc, .int .u64 D.la, .int .u64 D.lb, .int .u64 D.lc, .int .u64 D.ua, .int .u64 D.ub, .int .u64 D.uc, .int .i64 D.pk, .int .i64 D.bt] rfl rfl INF.out rfl (ONE.out _) ?_; (have mk := HB3); intro w4 hs4 hb4 hv4; have HD4 := Lib.hid hv4; have HC4 := Lib.hid (HC3.out.bel hb4); have HB4 := Lib.hid (HB3.out.trans (hb4.mono HB3.out.size)); clear hb4 hv4)
   | (go_at_call 30; (have mk := HB2); (with_reducible refine (KB.out _ HB2.out).mono ?_); rintro _ w3 ⟨e2, rfl, he2, hbel⟩; have HC3 := Lib.hid (HC2.out.bel hbel); have HB3 := Lib.hid (HB2.out.trans (hbel.mono HB2.out.size)); have he2b : (e2 != 0) = !(e2 == 0) := rfl; rw [he2] at he2b; clear hbel)
   | (refine wpList_var_new rfl rfl 48 #[.int .i64 0, .int .i64 0, .bool false, .int .u64 0, .int .u64 0, .int .u64 0, .int .u64 0, .int .u64 0, .int .u64 0, .int .u64 0, .int .u64 0, .int .u64 0, .int .i64 0, .int .i64 0] ALL.out rfl _ _ rfl #[.int .i64 C.id, .int .i64 C.par, .bool C.leaf, .int .u64 C.ra, .int .u64 C.rb, .int .u64 C.rc, .int .u64 C.la, .int .u64 C.lb, .int .u64 C.lc, .int .u64 C.ua, .int .u64 C.ub, .int .u64 C.uc, .int .i64 C.pk, .int .i64 C.bt] rfl rfl INF.out rfl (ONE.out _) ?_; intro w2 hs2 hb2 hv2; have HC2 := Lib.hid hv2; have HB2 := Lib.hid (HB1.out.trans (hb2.mono HB1.out.size)); clear hb2 hv2)
   | (go_at_call 30; (with_reducible refine KA.out.mono ?_); rintro _ w1 ⟨e1, rfl, he1, hbel⟩; have HB1 := Lib.hid hbel; have he1b : (e1 != 0) = !(e1 == 0) := rfl; rw [he1] at he1b; clear hbel))
   go_ret
   exact ⟨by rw [HRQ.out]; rfl, HB4.out⟩)
theorem HT.onlyB {B : Nat} {z z' : World} {tb mb : Nat} {f : Int → Option Cls} (h : HT z tb mb f) (ho : Only (fun k => B ≤ k) z z') (h1 : tb < B) (h2 : mb < B) : HT z' tb mb f := by
 obtain ⟨n, hn⟩ := h.mp
 exact ⟨(ho.cell h.lt (by omega)).trans h.c0, Nat.lt_of_lt_of_le h.lt ho.size, h.ne, n, hn.frame (ho.block mb hn.lt (by omega))⟩
theorem TV.only {B : Nat} {z z' : World} {v : Value} {f : Int → Option Cls} {L : List Int} (h : TV z v f L) (hB : z.heap.size ≤ B) (ho : Only (fun k => B ≤ k) z z') : TV z' v f L := by
 rcases h with h | ⟨tb, mb, h1, h2⟩
 ·exact .inl h
 ·exact .inr ⟨tb, mb, h1, h2.onlyB ho (by have := h2.lt; omega) (by have := h2.mlt; omega)⟩
theorem tto1_c {W0 z : World} {B : Nat} {ca cb : Nat} {va vb : Value} {f g : Int → Option Cls} {L M : List Int} (ha : TV W0 va f L) (hb : TV W0 vb g M) (hB : W0.heap.size ≤ B) (c1 : W0.cell? ⟨ca, 0, none⟩ = some va) (c2 : W0.cell? ⟨cb, 0, none⟩ = some vb) (l1 : ca < W0.heap.size) (l2 : cb < W0.heap.size) (ho : Only (fun k => B ≤ k) W0 z) {x : Int} (hx : iok x) :
  Calls Tryz.prog 35 #[.int .i64 x, .pointer (some ⟨ca, 0, none⟩), .pointer (some ⟨cb, 0, none⟩)] z fun ee w' => ee = .returned (.bool (tsm f g x)) ∧ Below z.heap.size z w' := by
 have K := Lib.hid (tsame_c (ha.only hB ho) (hb.only hB ho) hx)
 have d1 := (ho.cell l1 (by omega)).trans c1
 have d2 := (ho.cell l2 (by omega)).trans c2
 have m1 := Nat.lt_of_lt_of_le l1 ho.size
 have m2 := Nat.lt_of_lt_of_le l2 ho.size
 clear ha hb c1 c2 l1 l2 hB
 go_enter Tryz.func35, Tryz.ntmps35
 go_wp2_with (first | go_guarded | (go_at_call 36; (with_reducible refine K.out.mono ?_); rintro _ w1 ⟨rfl, hbel⟩; have HB := Lib.hid hbel; clear hbel))
 go_ret
 exact ⟨rfl, HB.out⟩
theorem clz_in : CIn clz := ⟨rfl, rfl, ⟨by decide, by decide⟩, ⟨by decide, by decide⟩, ⟨by decide, by decide⟩, ⟨by decide, by decide⟩, ⟨by decide, by decide⟩, ⟨by decide, by decide⟩, ⟨by decide, by decide⟩, ⟨by decide, by decide⟩, ⟨by decide, by decide⟩, rfl, rfl⟩
def trl (f g : Int → Option Cls) (x : Int) : Bool := rl1 (gcl (f x)) || rl1 (gcl (g x))
theorem gcl_in {f : Int → Option Cls} {L : List Int} (I : TI f L) (x : Int) : CIn (gcl (f x)) := by
 cases h : f x with
 | none => exact clz_in
 | some c => exact (I.cls x c h).2.1
theorem trl1_c {W0 z : World} {B : Nat} {ca cb : Nat} {va vb : Value} {f g : Int → Option Cls} {L M : List Int} (I : TI f L) (J : TI g M) (ha : TV W0 va f L) (hb : TV W0 vb g M) (hB : W0.heap.size ≤ B) (c1 : W0.cell? ⟨ca, 0, none⟩ = some va) (c2 : W0.cell? ⟨cb, 0, none⟩ = some vb) (l1 : ca < W0.heap.size) (l2 : cb < W0.heap.size) (ho : Only (fun k => B ≤ k) W0 z) {x : Int} (hx : iok x) :
  Calls Tryz.prog 39 #[.int .i64 x, .pointer (some ⟨ca, 0, none⟩), .pointer (some ⟨cb, 0, none⟩)] z fun ee w' => ee = .returned (.bool (trl f g x)) ∧ Below z.heap.size z w' := by
 have hTa := ha.only hB ho
 have hTb := hb.only hB ho
 have KA := Lib.hid (tget_c hTa hx)
 have KB := Lib.hid (fun (w : World) (h : Below z.heap.size z w) => tget_c (hTb.below h) hx)
 have KC := Lib.hid (fun w => creal_c (gcl_in I x) w)
 have KD := Lib.hid (fun w => creal_c (gcl_in J x) w)
 have ALL := Lib.hid cl_alloc
 have INF := Lib.hid cl_info
 have ONE := Lib.hid cla_one
 have d1 := (ho.cell l1 (by omega)).trans c1
 have d2 := (ho.cell l2 (by omega)).trans c2
 have m1 := Nat.lt_of_lt_of_le l1 ho.size
 have m2 := Nat.lt_of_lt_of_le l2 ho.size
 have D2 := Lib.hid d2
 have M2 := Lib.hid m2
 unfold trl
 obtain ⟨C, hC⟩ : ∃ C, gcl (f x) = C := ⟨_, rfl⟩
 obtain ⟨D, hD⟩ : ∃ D, gcl (g x) = D := ⟨_, rfl⟩
 rw [hC] at KA KC ⊢
 rw [hD] at KB KD ⊢
 obtain ⟨r1, h1⟩ : ∃ r, rl1 C = r := ⟨_, rfl⟩
 obtain ⟨r2, h2⟩ : ∃ r, rl1 D = r := ⟨_, rfl⟩
 rw [h1] at KC ⊢
 rw [h2] at KD ⊢
 clear ha hb c1 c2 l1 l2 hB hTa hTb hC hD h1 h2 I J d2 m2
 cases r1 <;> cases r2
 all_goals
  (go_enter Tryz.func39, Tryz.ntmps39
   go_wp2_with (first
   | (refine wpList_var_get_g 48 _ rfl _ #[.int .i64 D.id, .int .i64 D.par, .bool D.leaf, .int .u64 D.ra, .int .u64 D.rb, .int .u64 D.rc, .int .u64 D.la, .int .u64 D.lb, .int .u64 D.lc, .int .u64 D.ua, .int .u64 D.ub, .int .u64 D.uc, .int .i64 D.pk, .int .i64 D.bt] _ HD5.out rfl Tryz.underlying48 rfl INF.out (by rfl) ?_)
   | (refine wpList_var_get_g 48 _ rfl _ #[.int .i64 C.id, .int .i64 C.par, .bool C.leaf, .int .u64 C.ra, .int .u64 C.rb, .int .u64 C.rc, .int .u64 C.la, .int .u64 C.lb, .int .u64 C.lc, .int .u64 C.ua, .int .u64 C.ub, .int .u64 C.uc, .int .i64 C.pk, .int .i64 C.bt] _ HC4.out rfl Tryz.underlying48 rfl INF.out (by rfl) ?_)
   | go_guarded
   | (go_at_call 40; (have mk := HB5); (with_reducible refine (KD.out _).mono ?_); rintro _ w6 ⟨rfl, hbel⟩; have HBF := Lib.hid (HB5.out.trans (hbel.mono HB5.out.size)); clear hbel)
   | (go_at_call 40; (with_reducible refine (KC.out _).mono ?_); rintro _ w5 ⟨rfl, hbel⟩; have HD5 := Lib.hid (HD4.out.bel hbel); have HB5 := Lib.hid (HB4.out.trans (hbel.mono HB4.out.size)); have HBF := HB5; clear hbel)
   | (refine wpList_var_new rfl rfl 48 #[.int .i64 0, .int .i64 0, .bool false, .int .u64 0, .int .u64 0, .int .u64 0, .int .u64 0, .int .u64 0, .int .u64 0, .int .u64 0, .int .u64 0, .int .u64 0, .int .i64 0, .int .i64 0] ALL.out rfl _ _ rfl #[.int .i64 D.id, .int .i64 D.par, .bool D.leaf, .int .u64 D.ra, .int .u64 D.rb, .int .u64 D.rc, .int .u64 D.la, .int .u64 D.lb, .int .u64 D.lc, .int .u64 D.ua, .int .u64 D.ub, .int .u64 D.uc, .int .i64 D.pk, .int .i64 D.bt] rfl rfl INF.out rfl (ONE.out _) ?_; (have mk := HB3); intro w4 hs4 hb4 hv4; have HD4 := Lib.hid hv4; have HC4 := Lib.hid (HC3.out.bel hb4); have HB4 := Lib.hid (HB3.out.trans (hb4.mono HB3.out.size)); clear hb4 hv4)
   | (go_at_call 30; (have mk := HB2); (with_reducible refine (KB.out _ HB2.out).mono ?_); rintro _ w3 ⟨e2, rfl, he2, hbel⟩; have HC3 := Lib.hid (HC2.out.bel hbel); have HB3 := Lib.hid (HB2.out.trans (hbel.mono HB2.out.size)); clear hbel)
   | (refine wpList_var_new rfl rfl 48 #[.int .i64 0, .int .i64 0, .bool false, .int .u64 0, .int .u64 0, .int .u64 0, .int .u64 0, .int .u64 0, .int .u64 0, .int .u64 0, .int .u64 0, .int .u64 0, .int .i64 0, .int .i64 0] ALL.out rfl _ _ rfl #[.int .i64 C.id, .int .i64 C.par, .bool C.leaf, .int .u64 C.ra, .int .u64 C.rb, .int .u64 C.rc, .int .u64 C.la, .int .u64 C.lb, .int .u64 C.lc, .int .u64 C.ua, .int .u64 C.ub, .int .u64 C.uc, .int .i64 C.pk, .int .i64 C.bt] rfl rfl INF.out rfl (ONE.out _) ?_; intro w2 hs2 hb2 hv2; have HC2 := Lib.hid hv2; have HB2 := Lib.hid (HB1.out.trans (hb2.mono HB1.out.size)); have d2 := (HB2.out.cell (p := ⟨cb, 0, none⟩) M2.out).trans D2.out; have m2 := Nat.lt_of_lt_of_le M2.out HB2.out.size; clear hb2 hv2)
   | (go_at_call 30; (with_reducible refine KA.out.mono ?_); rintro _ w1 ⟨e1, rfl, he1, hbel⟩; have HB1 := Lib.hid hbel; clear hbel))
   go_ret
   exact ⟨rfl, HBF.out⟩)
def WI (z : World) (b : Nat) (D : List Int) : Prop := ∀ j (h : j < D.length), z.cell? ⟨b, j, none⟩ = some (.int .i64 D[j]) ∧ z.frozen? ⟨b, j, none⟩ = false
theorem WI.frame {z z' : World} {b : Nat} {D : List Int} (h : WI z b D) (he : z'.heap[b]? = z.heap[b]?) : WI z' b D := fun j hj => ⟨(World.cell?_of_block he).trans (h j hj).1, (World.frozen?_of_block he).trans (h j hj).2⟩
theorem WI.below {z z' : World} {b : Nat} {D : List Int} (h : WI z b D) (hb : Below z.heap.size z z') (hl : b < z.heap.size) : WI z' b D := h.frame (hb.block b hl)
theorem ixT_c {W0 : World} {B ca cb : Nat} {p : Int → Bool} (D : List Int) (K : ∀ x ∈ D, ∀ z, Only (fun k => B ≤ k) W0 z → Calls Tryz.prog 35 #[.int .i64 x, .pointer (some ⟨ca, 0, none⟩), .pointer (some ⟨cb, 0, none⟩)] z fun ee w' => ee = .returned (.bool (p x)) ∧ Below z.heap.size z w') (n : Nat) (hn : D.length = n) (hle : n ≤ 1000) (b cap : Nat) (w : World) (hO : Only (fun k => B ≤ k) W0 w) (hI : WI w b D) (hb : b < w.heap.size) :
  Calls Tryz.prog 66 #[.slice (some ⟨b, 0, none⟩) n cap, .func (.func 35) #[] #[.pointer (some ⟨ca, 0, none⟩), .pointer (some ⟨cb, 0, none⟩)]] w fun e w' => (∃ i : Int, e = .returned (.int .i64 i) ∧ decide (0 ≤ i) = D.any p ∧ ((i = -1 ∧ ∀ x ∈ D, p x = false) ∨ ∃ k : Nat, i = (k : Int) ∧ k < n ∧ (∀ x ∈ D.take k, p x = false) ∧ p (D.getD k 0) = true)) ∧ Below w.heap.size w w' := by
 have HK := Lib.hid K
 have HN := Lib.hid hn
 have HO := Lib.hid hO
 have HI := Lib.hid hI
 have HBL := Lib.hid hb
 clear K hn hO hI hb
 go_enter Tryz.func66, Tryz.ntmps66
 go_wp2_with fail
 go_loopg [8] n (fun k9 s8 wr => ∃ k : Nat, s8 = .int .i64 k ∧ k ≤ n ∧ (∀ x ∈ D.take k, p x = false) ∧ Below w.heap.size w wr ∧ n - k ≤ k9)
 case atStart => exact ⟨0, rfl, Nat.zero_le _, fun x hx => by simp at hx, Below.refl _ _, by omega⟩
 case round =>
  obtain ⟨k, rfl, hk, hno, hB, hk9⟩ := hrel
  have HB := Lib.hid hB
  have HNO := Lib.hid hno
  by_cases hlt : k < n
  ·have hlC : k < D.length := by rw [HN.out]; exact hlt
   have hce := ((HI.out.below hB HBL.out) k hlC).1
   have hb2 := Nat.lt_of_lt_of_le HBL.out hB.size
   have hts := take_snoc'' D k hlC
   have hgd : D.getD k 0 = D[k] := by simp [List.getD, hlC]
   have hmem : D[k] ∈ D := List.getElem_mem hlC
   obtain ⟨x, hxe⟩ : ∃ x, D[k] = x := ⟨_, rfl⟩
   rw [hxe] at hce hts hgd hmem
   have KX := Lib.hid (HK.out x hmem wr (HO.out.trans (Only.of_below hB)))
   have HMEM := Lib.hid hmem
   have HGD := Lib.hid hgd
   have HTS := Lib.hid hts
   clear hno hB hts hgd hmem hxe hlC
   cases hp : p x with
   | true =>
    rw [hp] at KX
    have HP := Lib.hid hp
    clear hp
    go_wp2_with (first | go_guarded | (go_at_call 35; (with_reducible refine KX.out.mono ?_); rintro _ w1 ⟨rfl, hbel⟩; have HB1 := Lib.hid (HB.out.trans (hbel.mono HB.out.size)); clear hbel))
    go_ret
    have h1 : D.any p = true := List.any_eq_true.2 ⟨x, HMEM.out, HP.out⟩
    exact ⟨⟨_, rfl, by rw [h1]; simp, .inr ⟨k, rfl, hlt, HNO.out, by rw [HGD.out]; exact HP.out⟩⟩, HB1.out⟩
   | false =>
    rw [hp] at KX
    have HN2 : Hid (∀ y ∈ D.take (k + 1), p y = false) := Lib.hid (by rw [HTS.out]; intro y hy; rcases List.mem_append.1 hy with h | h; exact HNO.out y h; rw [List.mem_singleton] at h; subst h; exact hp)
    clear hp
    go_wp2_with (first | go_guarded | (go_at_call 35; (with_reducible refine KX.out.mono ?_); rintro _ w1 ⟨rfl, hbel⟩; have HB1 := Lib.hid (HB.out.trans (hbel.mono HB.out.size)); clear hbel))
    go_roundg (n - (k + 1))
    case rel => exact ⟨k + 1, by go_num, by omega, HN2.out, HB1.out, Nat.le_refl _⟩
    case measure => omega
  ·obtain rfl : k = n := by omega
   have hall : ∀ x ∈ D, p x = false := by rw [← HN.out, List.take_length] at hno; exact hno
   have HA := Lib.hid hall
   clear hno hB hlt hall
   go_wp2_with (first | go_guarded)
   go_ret
   have h1 : D.any p = false := List.any_eq_false.2 fun x hx => by rw [HA.out x hx]; simp
   exact ⟨⟨_, rfl, by rw [h1]; rfl, .inl ⟨rfl, HA.out⟩⟩, HB.out⟩
theorem ixR_c {W0 : World} {B ca cb : Nat} {p : Int → Bool} (D : List Int) (K : ∀ x ∈ D, ∀ z, Only (fun k => B ≤ k) W0 z → Calls Tryz.prog 39 #[.int .i64 x, .pointer (some ⟨ca, 0, none⟩), .pointer (some ⟨cb, 0, none⟩)] z fun ee w' => ee = .returned (.bool (p x)) ∧ Below z.heap.size z w') (n : Nat) (hn : D.length = n) (hle : n ≤ 1000) (b cap : Nat) (w : World) (hO : Only (fun k => B ≤ k) W0 w) (hI : WI w b D) (hb : b < w.heap.size) :
  Calls Tryz.prog 66 #[.slice (some ⟨b, 0, none⟩) n cap, .func (.func 39) #[] #[.pointer (some ⟨ca, 0, none⟩), .pointer (some ⟨cb, 0, none⟩)]] w fun e w' => (∃ i : Int, e = .returned (.int .i64 i) ∧ decide (0 ≤ i) = D.any p ∧ ((i = -1 ∧ ∀ x ∈ D, p x = false) ∨ ∃ k : Nat, i = (k : Int) ∧ k < n ∧ (∀ x ∈ D.take k, p x = false) ∧ p (D.getD k 0) = true)) ∧ Below w.heap.size w w' := by
 have HK := Lib.hid K
 have HN := Lib.hid hn
 have HO := Lib.hid hO
 have HI := Lib.hid hI
 have HBL := Lib.hid hb
 clear K hn hO hI hb
 go_enter Tryz.func66, Tryz.ntmps66
 go_wp2_with fail
 go_loopg [8] n (fun k9 s8 wr => ∃ k : Nat, s8 = .int .i64 k ∧ k ≤ n ∧ (∀ x ∈ D.take k, p x = false) ∧ Below w.heap.size w wr ∧ n - k ≤ k9)
 case atStart => exact ⟨0, rfl, Nat.zero_le _, fun x hx => by simp at hx, Below.refl _ _, by omega⟩
 case round =>
  obtain ⟨k, rfl, hk, hno, hB, hk9⟩ := hrel
  have HB := Lib.hid hB
  have HNO := Lib.hid hno
  by_cases hlt : k < n
  ·have hlC : k < D.length := by rw [HN.out]; exact hlt
   have hce := ((HI.out.below hB HBL.out) k hlC).1
   have hb2 := Nat.lt_of_lt_of_le HBL.out hB.size
   have hts := take_snoc'' D k hlC
   have hgd : D.getD k 0 = D[k] := by simp [List.getD, hlC]
   have hmem : D[k] ∈ D := List.getElem_mem hlC
   obtain ⟨x, hxe⟩ : ∃ x, D[k] = x := ⟨_, rfl⟩
   rw [hxe] at hce hts hgd hmem
   have KX := Lib.hid (HK.out x hmem wr (HO.out.trans (Only.of_below hB)))
   have HMEM := Lib.hid hmem
   have HGD := Lib.hid hgd
   have HTS := Lib.hid hts
   clear hno hB hts hgd hmem hxe hlC
   cases hp : p x with
   | true =>
    rw [hp] at KX
    have HP := Lib.hid hp
    clear hp
    go_wp2_with (first | go_guarded | (go_at_call 39; (with_reducible refine KX.out.mono ?_); rintro _ w1 ⟨rfl, hbel⟩; have HB1 := Lib.hid (HB.out.trans (hbel.mono HB.out.size)); clear hbel))
    go_ret
    have h1 : D.any p = true := List.any_eq_true.2 ⟨x, HMEM.out, HP.out⟩
    exact ⟨⟨_, rfl, by rw [h1]; simp, .inr ⟨k, rfl, hlt, HNO.out, by rw [HGD.out]; exact HP.out⟩⟩, HB1.out⟩
   | false =>
    rw [hp] at KX
    have HN2 : Hid (∀ y ∈ D.take (k + 1), p y = false) := Lib.hid (by rw [HTS.out]; intro y hy; rcases List.mem_append.1 hy with h | h; exact HNO.out y h; rw [List.mem_singleton] at h; subst h; exact hp)
    clear hp
    go_wp2_with (first | go_guarded | (go_at_call 39; (with_reducible refine KX.out.mono ?_); rintro _ w1 ⟨rfl, hbel⟩; have HB1 := Lib.hid (HB.out.trans (hbel.mono HB.out.size)); clear hbel))
    go_roundg (n - (k + 1))
    case rel => exact ⟨k + 1, by go_num, by omega, HN2.out, HB1.out, Nat.le_refl _⟩
    case measure => omega
  ·obtain rfl : k = n := by omega
   have hall : ∀ x ∈ D, p x = false := by rw [← HN.out, List.take_length] at hno; exact hno
   have HA := Lib.hid hall
   clear hno hB hlt hall
   go_wp2_with (first | go_guarded)
   go_ret
   have h1 : D.any p = false := List.any_eq_false.2 fun x hx => by rw [HA.out x hx]; simp
   exact ⟨⟨_, rfl, by rw [h1]; rfl, .inl ⟨rfl, HA.out⟩⟩, HB.out⟩
end Go.Proofs.YtffaahipgabkhaaGreat
end
section
namespace Go.Proofs.YtffaahipgabkhaaGreat
open Go.Shelf
def icmp_ren : Go.Shelf.Ren := ⟨fun | 43 => 34 | n => n, fun | 22 => 36 | 23 => 3 | 3 => 3 | 4 => 4 | 0 => 0 | n => n, fun | n => n⟩
theorem icmp : Go.Proofs.SlLaysE.n43 Tryz.prog icmp_ren := {
 mixed := by kernel_rfl
 f43 := ⟨Tryz.f34.name, by decide, Tryz.func34.trans (congrArg some (by kernel_rfl))⟩
 t0 := Tryz.underlying0
 a0 := Tryz.isAgg0
 z0 := Tryz.sizeOf0
 v0 := Tryz.zeroValue0
 t3 := Tryz.underlying3
 a3 := Tryz.isAgg3
 z3 := Tryz.sizeOf3
 v3 := Tryz.zeroValue3
 t4 := Tryz.underlying4
 a4 := Tryz.isAgg4
 z4 := Tryz.sizeOf4
 v4 := Tryz.zeroValue4
 t22 := Tryz.underlying36
 a22 := Tryz.isAgg36
 z22 := Tryz.sizeOf36
 v22 := Tryz.zeroValue36
 a23 := Tryz.isAgg3
 z23 := Tryz.sizeOf3 }
end Go.Proofs.YtffaahipgabkhaaGreat
end
section
namespace Go.Proofs.YtffaahipgabkhaaGreat
open Go.RowKit Fg Reg
def QR (z : World) (B s : Nat) (v : Value) (m : Nat) (xs : List Value) (bk : Option Nat) : Prop :=
 xs.length = m * s ∧ ((v = .slice none 0 0 ∧ m = 0 ∧ bk = none) ∨ ∃ b o cap, bk = some b ∧ v = .slice (some ⟨b, o, none⟩) m cap ∧ m ≤ cap ∧ cap ≤ maxLen ∧ B ≤ b ∧ b < z.heap.size ∧
  (∀ j, j < cap * s → (z.cell? ⟨b, o + j, none⟩).isSome = true ∧ z.frozen? ⟨b, o + j, none⟩ = false) ∧ ∀ j x, xs[j]? = some x → z.cell? ⟨b, o + j, none⟩ = some x)
theorem QR.nil (z : World) (B s : Nat) : QR z B s (.slice none 0 0) 0 [] none := ⟨by simp, .inl ⟨rfl, rfl, rfl⟩⟩
theorem QR.lt {z : World} {B s m : Nat} {v : Value} {xs : List Value} {bk : Option Nat} (h : QR z B s v m xs bk) : ∀ b, bk = some b → B ≤ b ∧ b < z.heap.size := fun b hb => by
 rcases h.2 with ⟨_, _, h3⟩ | ⟨b', o, cap, h1, _, _, _, h2, h3, _⟩
 ·rw [h3] at hb; cases hb
 ·rw [h1] at hb; cases hb; exact ⟨h2, h3⟩
theorem QR.only {S : Nat → Prop} {z z' : World} {B s m : Nat} {v : Value} {xs : List Value} {bk : Option Nat} (h : QR z B s v m xs bk) (ho : Only S z z') (hS : ∀ b, bk = some b → ¬ S b) : QR z' B s v m xs bk := by
 obtain ⟨h0, h | ⟨b, o, cap, h1, h2, h3, h4, h5, h6, h7, h8⟩⟩ := h
 ·exact ⟨h0, .inl h⟩
 ·have hn := hS b h1
  exact ⟨h0, .inr ⟨b, o, cap, h1, h2, h3, h4, h5, Nat.lt_of_lt_of_le h6 ho.size, fun j hj => ⟨by rw [ho.cell h6 hn]; exact (h7 j hj).1, by rw [ho.frozen h6 hn]; exact (h7 j hj).2⟩, fun j x hj => by rw [ho.cell h6 hn]; exact h8 j x hj⟩⟩
theorem QR.below {z z' : World} {B s m : Nat} {v : Value} {xs : List Value} {bk : Option Nat} (h : QR z B s v m xs bk) (hb : Below z.heap.size z z') : QR z' B s v m xs bk := h.only (Only.of_below (S := fun _ => False) hb) (fun _ _ h => h)
def tlq (s : Nat) (b o m cap : Nat) : Value := .slice (if cap = 1 then some ⟨b, o, none⟩ else some ⟨b, o + s, none⟩) (m - 1) (cap - 1)
theorem QR.of_own {w : World} {B s n : Nat} {e : TypeId} {v : Value} {xs : List Value} (h : w.ownsRow B e s v n xs) (hn : 0 < n) : ∃ b, QR w B s v n xs (some b) := by
 obtain ⟨hl, h⟩ := h
 rcases h with ⟨_, rfl⟩ | ⟨g, cap, cur, rfl, hg, hh, hnc, hcm, hsz, ht⟩
 ·omega
 ·have hlt : g < w.heap.size := by
   rcases Nat.lt_or_ge g w.heap.size with h' | h'
   ·exact h'
   ·rw [Array.getElem?_eq_none h'] at hh; cases hh
  refine ⟨g, hl, .inr ⟨g, 0, cap, rfl, rfl, hnc, hcm, hg, hlt, fun j hj => ?_, fun j x hj => ?_⟩⟩
  ·have hj' : j < cur.size := by omega
   constructor
   ·simp [World.cell?, hh, hj']
   ·simp [World.frozen?, hh]
  ·have hjl : j < xs.length := (List.getElem?_eq_some_iff.1 hj).1
   have hcs : n * s ≤ cap * s := Nat.mul_le_mul_right s hnc
   have hj' : j < cur.size := by omega
   rw [← ht, List.getElem?_take, if_pos (by omega)] at hj
   have hx : cur[j]? = some x := by simpa using hj
   simp [World.cell?, hh, hx]
theorem setCells_only (b : Nat) : ∀ (us : List Value) (o : Nat) (w : World), Only (fun k => k = b) w (w.setCells b o us)
 | [], _, w => Only.refl _ _
 | u :: us, o, w => ((Only.refl (fun k => k = b) w).setCell (p := ⟨b, o, none⟩) (.inl rfl) u).trans (setCells_only b us (o + 1) _)
section
variable {P : Program} (w : World)
end
end Go.Proofs.YtffaahipgabkhaaGreat
end
