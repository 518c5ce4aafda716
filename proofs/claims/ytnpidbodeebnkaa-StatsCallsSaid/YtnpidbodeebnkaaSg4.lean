/- All classes; all rows together. -/
import Derived.Test.YtnpidbodeebnkaaSg3
import Derived.Test.YtnpidbodeebnkaaVarRow2
namespace Go.Proofs.Ytnpidbodeebnkaa
set_option linter.unusedVariables false
set_option linter.unusedSimpArgs false
set_option maxRecDepth 100000
open Go.RowKit Fg Reg Go.Maps
attribute [local irreducible] Reg.wN Reg.wE QR

theorem msA {L M : List Int} (h : L.Pairwise (· < ·)) (hp : M.Perm L) : M.mergeSort (fun x y => decide (x ≤ y)) = L := by
  refine List.Perm.eq_of_pairwise (le := fun x y : Int => x ≤ y) (fun a b _ _ h1 h2 => by omega) ?_ ?_ ((List.mergeSort_perm _ _).trans hp)
  · refine List.Pairwise.imp ?_ (List.pairwise_mergeSort (le := fun x y => decide ((x : Int) ≤ y)) (fun a b c h1 h2 => ?_) (fun a b => ?_) M)
    · intro a b h; exact of_decide_eq_true h
    · have h1 := of_decide_eq_true h1; have h2 := of_decide_eq_true h2; exact decide_eq_true (by omega)
    · simp only [Bool.or_eq_true, decide_eq_true_eq]; omega
  · exact h.imp fun h => by omega
theorem ndA {L : List Int} (h : L.Pairwise (· < ·)) : L.Nodup := h.imp fun h => by omega
def insA (x : Int) (L : List Int) : List Int := L.filter (fun y => decide (y < x)) ++ x :: L.filter (fun y => decide (x < y))
theorem insA_mem {x : Int} {L : List Int} (y : Int) : y ∈ insA x L ↔ y = x ∨ y ∈ L := by
  unfold insA
  simp only [List.mem_append, List.mem_filter, List.mem_cons, decide_eq_true_eq]
  constructor
  · rintro (⟨h, _⟩ | h | ⟨h, _⟩)
    · exact .inr h
    · exact .inl h
    · exact .inr h
  · rintro (h | h)
    · exact .inr (.inl h)
    · rcases Int.lt_trichotomy y x with g | g | g
      · exact .inl ⟨h, g⟩
      · exact .inr (.inl g)
      · exact .inr (.inr ⟨h, g⟩)
theorem insA_srt {x : Int} {L : List Int} (h : L.Pairwise (· < ·)) : (insA x L).Pairwise (· < ·) := by
  unfold insA
  rw [List.pairwise_append, List.pairwise_cons]
  refine ⟨h.filter _, ⟨fun y hy => by simpa using (List.mem_filter.1 hy).2, h.filter _⟩, fun a ha b hb => ?_⟩
  have h1 : a < x := by simpa using (List.mem_filter.1 ha).2
  rcases List.mem_cons.1 hb with rfl | hb
  · exact h1
  · have h2 : x < b := by simpa using (List.mem_filter.1 hb).2
    omega
theorem len_sub : ∀ {A L : List Int}, A.Nodup → (∀ x ∈ A, x ∈ L) → A.length ≤ L.length
  | [], L, _, _ => Nat.zero_le _
  | a :: A, L, h, hs => by
    rw [List.nodup_cons] at h
    have ha : a ∈ L := hs a List.mem_cons_self
    have := len_sub (L := L.erase a) h.2 fun x hx => (List.mem_erase_of_ne (fun e => h.1 (by rw [← e]; exact hx))).2 (hs x (List.mem_cons_of_mem _ hx))
    rw [List.length_erase_of_mem ha] at this
    have hp := List.length_pos_of_mem ha
    rw [List.length_cons]
    omega
theorem perm_of_mem {α : Type} [DecidableEq α] {A B : List α} (hA : A.Nodup) (hB : B.Nodup) (h : ∀ x, x ∈ A ↔ x ∈ B) : A.Perm B := (List.perm_ext_iff_of_nodup hA hB).2 h
theorem ikv_inj2 : ∀ x y : Int, ikv x = ikv y → x = y := fun x y h => by simpa [ikv] using h
section
variable {κ ν : Type} {P : Program} {kv : κ → Value} {vv : ν → Value} {ok : κ → Prop} {f : κ → Option ν} {n : Nat} {w : World} {b : Nat} {k : TypeId}
theorem MpEnt.count [DecidableEq κ] (hinj : ∀ x y, kv x = kv y → x = y) {es : Array MapEntry} {clock : Nat} (h : MpEnt kv vv ok f n es clock) (ks : List κ) (hn : ks.Nodup) (hk : ∀ x, x ∈ ks ↔ (f x).isSome = true) : es.size = ks.length := by
  have hd := ((MapKept.stamped_iff es clock).1 h.stamped).2.2
  have h2 : ∃ xs : List κ, xs.length = es.toList.length ∧ es.toList.map (·.key) = xs.map kv ∧ ∀ x ∈ xs, (f x).isSome = true := by
    have go : ∀ L : List MapEntry, (∀ e ∈ L, ∃ x v, ok x ∧ e.key = kv x ∧ e.val = vv v ∧ f x = some v) → ∃ xs : List κ, xs.length = L.length ∧ L.map (·.key) = xs.map kv ∧ ∀ x ∈ xs, (f x).isSome = true := by
      intro L
      induction L with
      | nil => intro _; exact ⟨[], rfl, rfl, by simp⟩
      | cons e L ih =>
        intro hL
        obtain ⟨xs, x1, x2, x3⟩ := ih fun e' he' => hL e' (by simp [he'])
        obtain ⟨x, v, _, e1, _, e3⟩ := hL e (by simp)
        refine ⟨x :: xs, by simp [x1], by simp [x2, e1], fun y hy => ?_⟩
        rcases List.mem_cons.1 hy with rfl | hy
        · rw [e3]; rfl
        · exact x3 y hy
    exact go _ h.ent
  obtain ⟨xs, x1, x2, x3⟩ := h2
  have hnx : xs.Nodup := by
    have h3 : (es.toList.map (·.key)).Nodup := by unfold List.Nodup; rw [List.pairwise_map]; exact hd
    rw [x2] at h3
    unfold List.Nodup at h3 ⊢
    rw [List.pairwise_map] at h3
    exact h3.imp fun h g => h (by rw [g])
  have hp : xs.Perm ks := perm_of_mem hnx hn fun x => by
    rw [hk x]
    constructor
    · exact x3 x
    · intro hx
      obtain ⟨v, hv⟩ := Option.isSome_iff_exists.1 hx
      obtain ⟨e, he, hke⟩ := h.has x v hv
      have : kv x ∈ xs.map kv := by rw [← x2, ← hke]; exact List.mem_map.2 ⟨e, he, rfl⟩
      obtain ⟨y, hy, hyx⟩ := List.mem_map.1 this
      rw [← hinj y x hyx]; exact hy
  rw [← hp.length_eq, x1]; simp
theorem Mp.fit [DecidableEq κ] (h : Mp kv vv ok f n w b) (hinj : ∀ x y, kv x = kv y → x = y) (ks : List κ) (hn : ks.Nodup) (hk : ∀ x, x ∈ ks ↔ (f x).isSome = true) : Mp kv vv ok f ks.length w b := by
  obtain ⟨es, clock, hb, hE⟩ := h
  exact ⟨es, clock, hb, hE.stamped, Nat.le_of_eq (hE.count hinj ks hn hk), hE.ent, hE.has⟩
end
theorem r5_all (w : World) : (Instr.alloc 39 true (.tuple #[])).run Try.prog w = .ok (.pointer (some ⟨w.heap.size, 0, none⟩)) (w.alloc (.cells #[.int .u64 0, .int .u64 0, .int .u64 0, .int .u64 0, .int .u64 0] 39)) := by kernel_rfl
theorem r5_info : (Try.prog.info? 39).map (·.size) = some 5 := by kernel_rfl
theorem r5_one (r : R5) : (#[.int .u64 (r).a, .int .u64 (r).b, .int .u64 (r).c, .int .u64 (r).d, .int .u64 (r).e] : Array Value).all (·.oneCell') = true := by kernel_rfl
set_option maxHeartbeats 4000000 in
theorem scla_c {z : World} {B p mw mr : Nat} {f : Int → Option Value} {W : Int → List Int} {bk : Int → Option Nat} {R : Int → Option R5} (h : SG z B p mw mr f W bk R) {K : List Int} (hK : K.Pairwise (· < ·)) (hk : ∀ x, x ∈ K ↔ (f x).isSome = true) (hn : K.length ≤ 1000) : Calls Try.prog 18 #[.pointer (some ⟨p, 0, none⟩)] z fun e z' => ∃ ao cap, e = .returned (.slice ao K.length cap) ∧ RwV (fun x : Int => [Value.int .i64 x]) 1 z' ao K ∧ Below z.heap.size z z' := by
  obtain ⟨n, hmp⟩ := h.mp
  have hf := hmp.fit ikv_inj2 K (ndA hK) hk
  obtain ⟨D, hown, hsz, hmem, hnd⟩ := Mp.owns (by unfold maxLen; omega) hf
  have hpk : (intKeys D).Perm K := (List.perm_ext_iff_of_nodup hnd (ndA hK)).2 fun x => (hmem x).trans (hk x).symm
  have K1 := Lib.hid keys_c
  have K2 := Lib.hid (sorted_c mw _ D _ z hown (by unfold maxLen; omega) (by omega))
  have HPK := Lib.hid hpk
  have HK := Lib.hid hK
  have c0 := h.c0
  have plt := h.plt
  clear h hown hsz hmem hnd hmp hf hpk hK hk
  go_enter Try.func18, Try.ntmps18
  go_wp2_with (first
    | (go_at_call 22; ((with_reducible refine (K1.out _ _).mono ?_); rintro e w1 ⟨rfl, rfl⟩))
    | (go_at_call 21; ((with_reducible refine (K2.out).mono ?_); rintro e w2 ⟨v2, ss, rfl, hS, hrow, -, hb⟩)))
  go_ret
  have hp2 : ss.Perm K := hS.trans HPK.out
  rw [msA HK.out hp2, hp2.length_eq] at hrow
  have hr2 : w2.ownsRow z.heap.size 3 1 v2 K.length (K.flatMap (fun x : Int => [Value.int .i64 x])) := by
    have e : ∀ l : List Int, l.flatMap (fun x : Int => [Value.int .i64 x]) = l.map encZ := fun l => by
      induction l with
      | nil => rfl
      | cons a l ih => rw [List.flatMap_cons, ih]; rfl
    rw [e K]; exact hrow
  obtain ⟨a, c, rfl, hR, -⟩ := RwV.of_own icl_of hr2
  exact ⟨a, c, rfl, hR, hb⟩
set_option maxHeartbeats 8000000 in
theorem stot_c {z : World} {B p mw mr : Nat} {f : Int → Option Value} {W : Int → List Int} {bk : Int → Option Nat} {R : Int → Option R5} (h : SG z B p mw mr f W bk R) {K : List Int} (hK : K.Nodup) (hk : ∀ x, x ∈ K ↔ (R x).isSome = true) (hok : ∀ x ∈ K, iok x) (hn : K.length ≤ 1000) : Calls Try.prog 16 #[.pointer (some ⟨p, 0, none⟩)] z fun e z' => ∃ ks : List Int, ks.Perm K ∧ e = .returned (r5v (sums r50 (ks.map (fun c => (R c).getD r50)))) ∧ Below z.heap.size z z' := by
  obtain ⟨n0, hmp⟩ := h.mpr
  have HMP := Lib.hid hmp
  have HB2 := Lib.hid (fun (z' : World) (hb : Below z.heap.size z z') => hmp.below hb hmp.lt)
  have HML := Lib.hid hmp.lt
  have HK := Lib.hid hK
  have HKK := Lib.hid hk
  have HOK := Lib.hid hok
  have c1 := h.c1
  have plt := h.plt
  have ALL := Lib.hid r5_all
  have INF := Lib.hid r5_info
  have ONE := Lib.hid r5_one
  obtain ⟨q2, hq2⟩ : ∃ q, z.heap.size = q := ⟨_, rfl⟩
  obtain ⟨q3, hq3⟩ : ∃ q, z.heap.size + 1 = q := ⟨_, rfl⟩
  obtain ⟨q4, hq4⟩ : ∃ q, z.heap.size + 2 = q := ⟨_, rfl⟩
  have HQ : Hid (z.heap.size = q2 ∧ z.heap.size + 1 = q3 ∧ z.heap.size + 2 = q4) := Lib.hid ⟨hq2, hq3, hq4⟩
  have hV2 : VR ((z.alloc (.cells #[.int .u64 0, .int .u64 0, .int .u64 0, .int .u64 0, .int .u64 0] 39)).alloc (.cells #[.int .u64 0, .int .u64 0, .int .u64 0, .int .u64 0, .int .u64 0] 39)) q2 39 #[.int .u64 0, .int .u64 0, .int .u64 0, .int .u64 0, .int .u64 0] := by rw [← hq2]; exact (VR.new z _ _).alloc _
  have hV3 : VR ((z.alloc (.cells #[.int .u64 0, .int .u64 0, .int .u64 0, .int .u64 0, .int .u64 0] 39)).alloc (.cells #[.int .u64 0, .int .u64 0, .int .u64 0, .int .u64 0, .int .u64 0] 39)) q3 39 #[.int .u64 0, .int .u64 0, .int .u64 0, .int .u64 0, .int .u64 0] := by rw [← hq3]; have := VR.new (z.alloc (.cells #[.int .u64 0, .int .u64 0, .int .u64 0, .int .u64 0, .int .u64 0] 39)) #[.int .u64 0, .int .u64 0, .int .u64 0, .int .u64 0, .int .u64 0] 39; rw [World.size_alloc] at this; exact this
  have hBa : Below z.heap.size z ((z.alloc (.cells #[.int .u64 0, .int .u64 0, .int .u64 0, .int .u64 0, .int .u64 0] 39)).alloc (.cells #[.int .u64 0, .int .u64 0, .int .u64 0, .int .u64 0, .int .u64 0] 39)) := by (repeat' (first | assumption | exact Below.refl _ _ | refine Below.setCell ?_ (by first | (simp; done) | omega | (simp; omega)) _ | refine Below.alloc ?_ (by first | (simp; done) | omega | (simp; omega)) _ | refine Below.drew ?_ | refine below_drewN ?_ _))
  have hMa := HB2.out _ hBa
  have HV2a := Lib.hid hV2
  have HV3a := Lib.hid hV3
  have HBa := Lib.hid hBa
  have HMa := Lib.hid hMa
  clear h hmp hK hk hok hV2 hV3 hBa hMa hq2 hq3 hq4
  go_enter Try.func16, Try.ntmps16
  go_wp2_with (first | go_guarded | (refine wpList_range_itm rfl _ 53 _ _ rfl Try.underlying53 mr n0 q4 rfl HMa.out (by have := HQ.out; simp; omega) ?_; intro w1 hI hbel hs1; have HI0 := Lib.hid hI; have HB0 : Hid (Below z.heap.size z w1) := Lib.hid (HBa.out.trans (hbel.mono (by have := HQ.out; omega))); have HV20 := Lib.hid (HV2a.out.below hbel (by have := HQ.out; omega)); have HV30 := Lib.hid (HV3a.out.below hbel (by have := HQ.out; omega)); clear hI hbel))
  go_frame
  (try rw [HQ.out.2.1])
  (try rw [HQ.out.1])
  go_loopg [] K.length (fun k9 wr => ∃ (ks : List Int) (x : R5), x = sums r50 (ks.map (fun c => (R c).getD r50)) ∧ ks.Nodup ∧ (∀ c ∈ ks, c ∈ K) ∧ K.length - ks.length ≤ k9 ∧ ItM ikv r5v iok R ks wr q4 mr ∧ VR wr q2 39 #[.int .u64 0, .int .u64 0, .int .u64 0, .int .u64 0, .int .u64 0] ∧ VR wr q3 39 #[.int .u64 (x).a, .int .u64 (x).b, .int .u64 (x).c, .int .u64 (x).d, .int .u64 (x).e] ∧ Below z.heap.size z wr)
  case atStart => exact ⟨[], r50, rfl, List.nodup_nil, fun c hc => (by cases hc), by simp, HI0.out, HV20.out, HV30.out, HB0.out⟩
  case round =>
    obtain ⟨ks, x, hx, hnd, hsub, hk9, hI, hv2, hv3, hB⟩ := hrel
    have HX := Lib.hid hx
    have HND := Lib.hid hnd
    have HSU := Lib.hid hsub
    have HI := Lib.hid hI
    have HV2 := Lib.hid hv2
    have HV3 := Lib.hid hv3
    have HB := Lib.hid hB
    clear hx hnd hsub hI hv2 hv3 hB
    by_cases hall : ∃ c v, iok c ∧ R c = some v ∧ c ∉ ks
    · have HALL := Lib.hid hall
      clear hall
      go_wp2_with (first
        | go_guarded
        | (go_at_call 20; (have KT := tog_c x cl); unfold r5v at KT; (with_reducible refine (KT _).mono ?_); clear KT; rintro _ w6 ⟨rfl, hbel⟩; have HI6 := Lib.hid (HI5.out.below hbel); have HV26 := Lib.hid (HV25.out.bel hbel); have HV36 := Lib.hid (HV35.out.bel hbel); have HB6 : Hid (Below z.heap.size z w6) := Lib.hid (HB5.out.trans (hbel.mono HB5.out.size)); clear hbel)
        | (refine wpList_var_get rfl 39 _ rfl _ #[.int .u64 (cl).a, .int .u64 (cl).b, .int .u64 (cl).c, .int .u64 (cl).d, .int .u64 (cl).e] _ HV5.out rfl Try.underlying39 rfl INF.out ?_)
        | (refine wpList_var_get rfl 39 _ rfl q3 #[.int .u64 (x).a, .int .u64 (x).b, .int .u64 (x).c, .int .u64 (x).d, .int .u64 (x).e] _ HV35.out rfl Try.underlying39 rfl INF.out ?_)
        | (refine wpList_var_set rfl 39 _ _ rfl q3 #[.int .u64 (x).a, .int .u64 (x).b, .int .u64 (x).c, .int .u64 (x).d, .int .u64 (x).e] #[.int .u64 ((tog x cl)).a, .int .u64 ((tog x cl)).b, .int .u64 ((tog x cl)).c, .int .u64 ((tog x cl)).d, .int .u64 ((tog x cl)).e] HV36.out rfl rfl INF.out rfl (ONE.out _) ?_; intro w7 hs7 ho7 hv7; have HV37 := Lib.hid hv7; have HO7 := Lib.hid ho7; clear hv7 ho7)
        | (refine wpList_var_new rfl rfl 39 #[.int .u64 0, .int .u64 0, .int .u64 0, .int .u64 0, .int .u64 0] ALL.out rfl _ _ rfl #[.int .u64 (cl).a, .int .u64 (cl).b, .int .u64 (cl).c, .int .u64 (cl).d, .int .u64 (cl).e] rfl rfl INF.out rfl (ONE.out _) ?_; intro w5 hs5 hb5 hv5; have HV5 := Lib.hid hv5; have HI5 := Lib.hid (HI3.out.below hb5); have HV25 := Lib.hid (HV23.out.bel hb5); have HV35 := Lib.hid (HV33.out.bel hb5); have HB5 : Hid (Below z.heap.size z w5) := Lib.hid (HB3.out.trans (hb5.mono HB3.out.size)); clear hb5 hv5)
        | (refine wpList_next_more rfl _ rfl q4 mr rfl HI.out HALL.out (fun a b _ _ h => by simpa [ikv] using h) ?_; intro c cl w3 hc hnc hf hen hI3 ho3 hs3; (simp only [ikv, r5v] at hen ⊢); have HI3 := Lib.hid hI3; have HV23 := Lib.hid (HV2.out.only ho3 (by have := HQ.out; omega)); have HV33 := Lib.hid (HV3.out.only ho3 (by have := HQ.out; omega)); have HB3 : Hid (Below z.heap.size z w3) := Lib.hid (HB.out.trans ⟨ho3.1, ho3.2, ho3.3, ho3.4, fun k hk => ho3.5 k (Nat.lt_of_lt_of_le hk HB.out.size) (by have := HQ.out; omega)⟩); have HF := Lib.hid hf; have HNC := Lib.hid hnc; clear hI3 ho3 hf hnc hc))
      have hnd2 : (ks ++ [c]).Nodup := List.nodup_append.2 ⟨HND.out, by simp, fun a ha b hb => by rw [List.mem_singleton] at hb; subst hb; rintro rfl; exact HNC.out ha⟩
      have hsub2 : ∀ y ∈ ks ++ [c], y ∈ K := fun y hy => by
        rcases List.mem_append.1 hy with g | g
        · exact HSU.out y g
        · rw [List.mem_singleton] at g; subst g; exact (HKK.out y).2 (by rw [HF.out]; rfl)
      have hm1 := len_sub hnd2 hsub2
      rw [List.length_append, List.length_singleton] at hm1
      go_roundg (K.length - (ks.length + 1))
      case rel => exact ⟨ks ++ [c], tog x cl, by rw [List.map_append, sums_app, ← HX.out]; show _ = tog x ((R c).getD r50); rw [HF.out]; rfl, hnd2, hsub2, by rw [List.length_append, List.length_singleton]; exact Nat.le_refl _, HI6.out.frame (HO7.out.block _ HI6.out.lt.1 (by have := HQ.out; omega)) (HO7.out.block _ HI6.out.lt.2 (by have := HQ.out; have := HML.out; omega)), HV26.out.only HO7.out (by have := HQ.out; omega), HV37.out, HB6.out.trans ⟨HO7.out.1, HO7.out.2, HO7.out.3, HO7.out.4, fun k hk => HO7.out.5 k (Nat.lt_of_lt_of_le hk HB6.out.size) (by have := HQ.out; omega)⟩⟩
      case measure => omega
    · have hd : ∀ c v, iok c → R c = some v → c ∈ ks := fun c v hc hf => Classical.byContradiction fun hn => hall ⟨c, v, hc, hf, hn⟩
      have hpm : ks.Perm K := (List.perm_ext_iff_of_nodup HND.out HK.out).2 fun c => ⟨HSU.out c, fun hc => by
        obtain ⟨v, hv⟩ := Option.isSome_iff_exists.1 ((HKK.out c).1 hc)
        exact hd c v (HOK.out c hc) hv⟩
      have HD := Lib.hid hd
      have HPM := Lib.hid hpm
      clear hd hpm hall
      go_wp2_with (first
        | go_guarded
        | (refine wpList_var_set rfl 39 _ _ rfl q2 #[.int .u64 0, .int .u64 0, .int .u64 0, .int .u64 0, .int .u64 0] #[.int .u64 (x).a, .int .u64 (x).b, .int .u64 (x).c, .int .u64 (x).d, .int .u64 (x).e] HV2.out rfl rfl INF.out rfl (ONE.out _) ?_; intro w7 hs7 ho7 hv7; have HV27 := Lib.hid hv7; have HO7 := Lib.hid ho7; clear hv7 ho7)
        | (refine wpList_var_get rfl 39 _ rfl q3 #[.int .u64 (x).a, .int .u64 (x).b, .int .u64 (x).c, .int .u64 (x).d, .int .u64 (x).e] _ HV3.out rfl Try.underlying39 rfl INF.out ?_)
        | (refine wpList_next_end rfl _ rfl q4 mr rfl HI.out HD.out ?_))
      refine bodyPost_ret (v := .agg #[.int .u64 (x).a, .int .u64 (x).b, .int .u64 (x).c, .int .u64 (x).d, .int .u64 (x).e]) (results_var Try.results16 _ q2 rfl _ _ HV27.out Try.underlying39 rfl INF.out) rfl ?_
      exact ⟨ks, HPM.out, by rw [← HX.out]; rfl, HB.out.trans ⟨HO7.out.1, HO7.out.2, HO7.out.3, HO7.out.4, fun k hk => HO7.out.5 k (Nat.lt_of_lt_of_le hk HB.out.size) (by have := HQ.out; omega)⟩⟩
end Go.Proofs.Ytnpidbodeebnkaa
