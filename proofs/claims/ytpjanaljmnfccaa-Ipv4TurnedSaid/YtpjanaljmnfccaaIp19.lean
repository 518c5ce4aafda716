/- Ipv4Turned: a byte that is turned. -/
import Derived.Test.YtpjanaljmnfccaaIp18
namespace Go.Proofs.Ytpjanaljmnfccaa
set_option linter.unusedVariables false
set_option linter.unusedSimpArgs false
set_option maxRecDepth 100000
open Go.RowKit Fg Reg
attribute [local irreducible] Reg.wE Reg2.wT

theorem bytes_new (w : World) (T : ByteArray) : ∃ (W2 : World) (c : Nat), (convert 9 75 (.string T)).run Try.prog w = .ok (.slice (some ⟨w.heap.size, 0, none⟩) T.size c) W2 ∧
    (∀ j, j < T.size → W2.cell? ⟨w.heap.size, j, none⟩ = some (.int .u8 (byt T j)) ∧ W2.frozen? ⟨w.heap.size, j, none⟩ = false) ∧ Below w.heap.size w W2 ∧ w.heap.size < W2.heap.size := by
  refine ⟨_, _, run_bytes_of_string (P := Try.prog) w 9 75 5 T Try.underlying9 Try.underlying75 Try.underlying5, fun j hj => ⟨row_byt w.drew T _ _ _ j hj, ?_⟩, (Below.drew (Below.refl _ _)).alloc (Nat.le_refl _) _, by simp⟩
  have hsz : T.size ≤ (bytesRow T (grownCap w T.size 0 5)).size := by
    unfold bytesRow
    rw [Array.size_append, Array.size_map]
    exact Nat.le_add_right _ _
  unfold World.frozen?
  rw [show (w.drew.alloc (.cells (bytesRow T (grownCap w T.size 0 5)) 5 ((bytesRow T (grownCap w T.size 0 5)).size, (bytesRow T (grownCap w T.size 0 5)).size + 1))).heap[w.heap.size]? = some (.cells (bytesRow T (grownCap w T.size 0 5)) 5 ((bytesRow T (grownCap w T.size 0 5)).size, (bytesRow T (grownCap w T.size 0 5)).size + 1)) from heap_alloc_new w.drew _]
  simp
  omega
theorem turn_conv (W : World) (b c : Nat) (T : ByteArray) (k : Nat) (v : Int) (hk : k < T.size) (h : ∀ j, j < T.size → W.cell? ⟨b, j, none⟩ = some (.int .u8 (byt T j))) :
    (convert 75 9 (.slice (some ⟨b, 0, none⟩) T.size c)).run Try.prog (W.setCell ⟨b, k, none⟩ (.int .u8 v)) = .ok (.string (turned T k v)) (W.setCell ⟨b, k, none⟩ (.int .u8 v)) :=
  run_dec _ b 0 T.size c ((bl T).set k v) (by rw [List.length_set, bl_len]) fun j x hj => by
    rw [Nat.zero_add]
    have hjl : j < T.size := by have := (List.getElem?_eq_some_iff.1 hj).1; rwa [List.length_set, bl_len] at this
    have hc := h j hjl
    by_cases e : j = k
    · subst e
      rw [List.getElem?_set_self (by rw [bl_len]; exact hjl)] at hj
      have hj : v = x := by simpa using hj
      subst hj
      simp [go_sem, hc]
    · rw [List.getElem?_set_ne (fun h => e h.symm)] at hj
      have hx : byt T j = x := by rw [← bl_get T j, List.getD, hj]; rfl
      rw [← hx]
      simp [go_sem, hc, e]
set_option maxHeartbeats 8000000 in
theorem ltu_turn (tos idn flg ofs ttl pro src dst : Int) (O body : ByteArray) (p r : Int) (T F : ByteArray) (ke : ∀ z, Calls Try.prog 39 #[.agg #[.int .u8 tos, .int .u16 idn, .int .u8 flg, .int .u16 ofs, .int .u8 ttl, .int .u8 pro, .int .u32 src, .int .u32 dst, .string O], .string body] z fun ee w' => ee = .returned (.tuple #[.string T, .int .i64 0]) ∧ Below (z).heap.size z w') (ku : ∀ z, Calls Try.prog 43 #[.string O] z fun ee w' => ee = .returned (.string F) ∧ Below (z).heap.size z w')
    (hF : F.size ≤ 40) (hT : 20 + F.size ≤ T.size) (hTm : T.size ≤ 65535) (k : Nat) (hpk : p = k) (h1 : 1 ≤ k) (h2 : k < 20 + F.size) (hne : r % 256 ≠ byt T k) (e : Int) (he : e = 2 ∨ e = 3 ∨ e = 4 ∨ e = 7)
    (kd : ∀ z, Calls Try.prog 42 #[.string (turned T k (r % 256))] z fun ee w' => ee = .returned (.tuple #[.agg #[.int .u8 0, .int .u16 0, .int .u8 0, .int .u16 0, .int .u8 0, .int .u8 0, .int .u32 0, .int .u32 0, .string ⟨#[]⟩], .string ⟨#[]⟩, .int .i64 e]) ∧ Below (z).heap.size z w') (w : World) : Calls Try.prog 13 #[.agg #[.int .u8 tos, .int .u16 idn, .int .u8 flg, .int .u16 ofs, .int .u8 ttl, .int .u8 pro, .int .u32 src, .int .u32 dst, .string O], .string body, .agg #[.int .i64 p, .int .i64 r]] w fun e w' => e = .returned (.bool true) ∧ Below w.heap.size w w' := by
  subst hpk
  have KF := Lib.hid four_c
  have KE := Lib.hid ke
  have KU := Lib.hid ku
  have KD := Lib.hid kd
  clear ke ku kd
  have hTi : (T.size : Int) ≤ 65535 := by omega
  have hFi : (F.size : Int) ≤ 40 := by omega
  have hkT : k < T.size := by omega
  have d1 : decide ((k : Int) < 1) = false := by simp; omega
  have d2 : decide ((20 + F.size : Int) ≤ k) = false := by simp; omega
  have d3 : decide ((T.size : Int) ≤ k) = false := by simp; omega
  have dn3 : decide (T.size ≤ k) = false := by simp; omega
  have dn2 : decide (20 + F.size ≤ k) = false := by simp; omega
  have hsx : ∀ (h : k < T.size), (T[k]'h).toNat = (T.data[k]?.getD 0).toNat := fun h => by rw [Array.getElem?_eq_getElem (show k < T.data.size from h)]; rfl
  have ex : byt T k = ((T.data[k]?.getD 0).toNat : Int) := rfl
  have hx := byt_bd T k
  rw [ex] at hne hx
  generalize (T.data[k]?.getD 0).toNat = x at *
  clear ex
  have hw : IntKind.u8.wrap r = r % 256 := by simp [IntKind.wrap, IntKind.bits, IntKind.signed]
  have d4 : (r % 256 == (x : Int)) = false := by simpa using hne
  have hk1 : (k : Int) < T.size := by omega
  have heq := hdr_eq 0 0 0 0 0 0 0 0 ⟨#[]⟩
  have HNX := Lib.hid (fun w => bytes_new w T)
  have HTC := Lib.hid (fun W b c => turn_conv W b c T k (r % 256) hkT)
  clear hne
  have d5 : (e == 0) = false := by simp; omega
  have d6 : (e != 0) = true := by simp; omega
  go_enter Try.func13, Try.ntmps13
  go_wp2_with (go_at_call 39; ((with_reducible refine (KE.out _).mono ?_); rintro e w1 ⟨rfl, hbel⟩; obtain ⟨hcc, hff⟩ := bcell hbel; have hsz := hbel.size; (try simp at hsz); have hF : (w1.cell? ⟨w.heap.size, 0, none⟩ = some (.int .u8 tos) ∧ w1.cell? ⟨w.heap.size, 1, none⟩ = some (.int .u16 idn) ∧ w1.cell? ⟨w.heap.size, 2, none⟩ = some (.int .u8 flg) ∧ w1.cell? ⟨w.heap.size, 3, none⟩ = some (.int .u16 ofs) ∧ w1.cell? ⟨w.heap.size, 4, none⟩ = some (.int .u8 ttl) ∧ w1.cell? ⟨w.heap.size, 5, none⟩ = some (.int .u8 pro) ∧ w1.cell? ⟨w.heap.size, 6, none⟩ = some (.int .u32 src) ∧ w1.cell? ⟨w.heap.size, 7, none⟩ = some (.int .u32 dst) ∧ w1.cell? ⟨w.heap.size, 8, none⟩ = some (.string O) ∧ w.heap.size < w1.heap.size) ∧ (w1.cell? ⟨w.heap.size + 1, 0, none⟩ = some (.int .i64 (k : Int)) ∧ w1.cell? ⟨w.heap.size + 1, 1, none⟩ = some (.int .i64 r) ∧ w.heap.size + 1 < w1.heap.size) ∧ Below w.heap.size w w1 := (by ((repeat' apply And.intro) <;> first | (simp [go_sem, *]; done) | omega | (repeat' (first | with_reducible exact Below.refl _ _ | with_reducible assumption | ((with_reducible refine Below.drew ?_)) | ((with_reducible refine below_drewN ?_ _)) | ((with_reducible refine Below.alloc ?_ ?_ _); rotate_left; focus (first | omega | (simp; done) | (simp; omega))) | ((with_reducible refine Below.setCell ?_ ?_ _); rotate_left; focus (first | omega | (simp; done) | (simp; omega))) | ((with_reducible refine Below.trans ?_ (Below.mono (by with_reducible assumption) ?_)); rotate_left; focus (first | omega | (simp; done) | (simp; omega))))))); go_split_ands; clear hcc hff hbel))
  obtain ⟨Cl, hCl⟩ : ∃ Cl : List Value → World → Prop, Cl = ((fun ps wz => (wz.cell? ⟨w.heap.size, 0, none⟩ = some (.int .u8 tos) ∧ wz.cell? ⟨w.heap.size, 1, none⟩ = some (.int .u16 idn) ∧ wz.cell? ⟨w.heap.size, 2, none⟩ = some (.int .u8 flg) ∧ wz.cell? ⟨w.heap.size, 3, none⟩ = some (.int .u16 ofs) ∧ wz.cell? ⟨w.heap.size, 4, none⟩ = some (.int .u8 ttl) ∧ wz.cell? ⟨w.heap.size, 5, none⟩ = some (.int .u8 pro) ∧ wz.cell? ⟨w.heap.size, 6, none⟩ = some (.int .u32 src) ∧ wz.cell? ⟨w.heap.size, 7, none⟩ = some (.int .u32 dst) ∧ wz.cell? ⟨w.heap.size, 8, none⟩ = some (.string O) ∧ w.heap.size < wz.heap.size) ∧ (wz.cell? ⟨w.heap.size + 1, 0, none⟩ = some (.int .i64 (k : Int)) ∧ wz.cell? ⟨w.heap.size + 1, 1, none⟩ = some (.int .i64 r) ∧ w.heap.size + 1 < wz.heap.size) ∧ Below w.heap.size w wz)) := ⟨_, rfl⟩; have HCl := Lib.hid hCl; clear hCl; refine wp_region_eff [] Cl (by kernel_rfl) (by kernel_rfl) (by rw [HCl.out]; (try simp only [List.nil_append, List.cons_append]); (try dsimp only); ((repeat' apply And.intro) <;> first | (simp [go_sem, *]; done) | omega | (repeat' (first | with_reducible exact Below.refl _ _ | with_reducible assumption | ((with_reducible refine Below.drew ?_)) | ((with_reducible refine below_drewN ?_ _)) | ((with_reducible refine Below.alloc ?_ ?_ _); rotate_left; focus (first | omega | (simp; done) | (simp; omega))) | ((with_reducible refine Below.setCell ?_ ?_ _); rotate_left; focus (first | omega | (simp; done) | (simp; omega))) | ((with_reducible refine Below.trans ?_ (Below.mono (by with_reducible assumption) ?_)); rotate_left; focus (first | omega | (simp; done) | (simp; omega))))))) ?_
  (repeat (first | (refine wE_skip (by rfl) ?_; simp only [Act.put, Nat.reduceAdd, List.setIfInBounds_toArray, List.set_cons_zero, List.set_cons_succ, List.nil_append, List.cons_append]) | (refine wE_open (by rfl) (by rfl) ?_; apply Exists.intro; refine ⟨fun vs wq hw => ?_, ?_⟩; (focus (rw [HCl.out] at hw; (try simp only [List.nil_append, List.cons_append] at hw); (try dsimp only at hw); go_split_ands; go_simp <;> first | with_reducible exact (rfl : Value.bool false = _) | with_reducible exact (rfl : Value.bool true = _) | ((try go_bits) <;> exact rfl))); simp only [Act.put, Nat.reduceAdd, List.setIfInBounds_toArray, List.set_cons_zero, List.set_cons_succ, List.nil_append, List.cons_append]) | (refine wE_seal (by rfl) (by rfl) (by kernel_rfl) ?_; apply Exists.intro; refine ⟨fun wq hw => ?_, ?_⟩; (focus (rw [HCl.out] at hw; (try simp only [List.nil_append, List.cons_append] at hw); (try dsimp only at hw); go_split_ands; go_simp <;> (try go_bits) <;> exact rfl)); simp only [Act.put, Nat.reduceAdd, List.setIfInBounds_toArray, List.set_cons_zero, List.set_cons_succ, List.nil_append, List.cons_append]) | (refine wE_seal (by rfl) (by rfl) (by kernel_rfl) ?_; apply Exists.intro; refine ⟨fun wq hw => ?_, ?_⟩; (focus (rw [HCl.out] at hw; (try simp only [List.nil_append, List.cons_append] at hw); (try dsimp only at hw); go_split_ands; go_simp; (go_at_call 43; ((with_reducible refine (KU.out _).mono ?_); rintro e w' ⟨rfl, hbel⟩; obtain ⟨hcc, hff⟩ := bcell hbel; have hsz := hbel.size; (try simp at hsz); refine ⟨rfl, ?_⟩; rw [HCl.out]; (try simp only [List.nil_append, List.cons_append]); (try dsimp only); ((repeat' apply And.intro) <;> first | (simp [go_sem, *]; done) | omega | (repeat' (first | with_reducible exact Below.refl _ _ | with_reducible assumption | ((with_reducible refine Below.drew ?_)) | ((with_reducible refine below_drewN ?_ _)) | ((with_reducible refine Below.alloc ?_ ?_ _); rotate_left; focus (first | omega | (simp; done) | (simp; omega))) | ((with_reducible refine Below.setCell ?_ ?_ _); rotate_left; focus (first | omega | (simp; done) | (simp; omega))) | ((with_reducible refine Below.trans ?_ (Below.mono (by with_reducible assumption) ?_)); rotate_left; focus (first | omega | (simp; done) | (simp; omega)))))))))); simp only [Act.put, Nat.reduceAdd, List.setIfInBounds_toArray, List.set_cons_zero, List.set_cons_succ, List.nil_append, List.cons_append]) | (refine wE_eff (by rfl) (by rfl) (fun wq hw => ?_) (fun u hu => ?_); (focus (rw [HCl.out] at hw; (try simp only [List.nil_append, List.cons_append] at hw); (try dsimp only at hw); go_split_ands; go_simp; rw [HCl.out]; (try simp only [List.nil_append, List.cons_append]); (try dsimp only); skip; ((repeat' apply And.intro) <;> first | (simp [go_sem, *]; done) | omega | (repeat' (first | with_reducible exact Below.refl _ _ | with_reducible assumption | ((with_reducible refine Below.drew ?_)) | ((with_reducible refine below_drewN ?_ _)) | ((with_reducible refine Below.alloc ?_ ?_ _); rotate_left; focus (first | omega | (simp; done) | (simp; omega))) | ((with_reducible refine Below.setCell ?_ ?_ _); rotate_left; focus (first | omega | (simp; done) | (simp; omega))) | ((with_reducible refine Below.trans ?_ (Below.mono (by with_reducible assumption) ?_)); rotate_left; focus (first | omega | (simp; done) | (simp; omega)))))))); clear hu; simp only [Act.put, Nat.reduceAdd, List.setIfInBounds_toArray, List.set_cons_zero, List.set_cons_succ, List.nil_append, List.cons_append]))); refine wE_nil ?_; intro w' hw; rw [HCl.out] at hw; (try simp only [List.nil_append, List.cons_append] at hw); (try dsimp only at hw); clear HCl; go_split_ands
  obtain ⟨W2, c, hcv, hcells, hbel, hlt⟩ := HNX.out w'
  have hck := (hcells k hkT).1
  have hfk := (hcells k hkT).2
  have hcv2 := HTC.out W2 w'.heap.size c (fun j hj => (hcells j hj).1)
  obtain ⟨hcc, hff⟩ := bcell hbel
  have hF : (W2.cell? ⟨w.heap.size + 1, 0, none⟩ = some (.int .i64 (k : Int)) ∧ W2.cell? ⟨w.heap.size + 1, 1, none⟩ = some (.int .i64 r) ∧ w.heap.size + 1 < W2.heap.size) ∧ Below w.heap.size w W2 := (by ((repeat' apply And.intro) <;> first | (simp [go_sem, *]; done) | omega | (repeat' (first | with_reducible exact Below.refl _ _ | with_reducible assumption | ((with_reducible refine Below.drew ?_)) | ((with_reducible refine below_drewN ?_ _)) | ((with_reducible refine Below.alloc ?_ ?_ _); rotate_left; focus (first | omega | (simp; done) | (simp; omega))) | ((with_reducible refine Below.setCell ?_ ?_ _); rotate_left; focus (first | omega | (simp; done) | (simp; omega))) | ((with_reducible refine Below.trans ?_ (Below.mono (by with_reducible assumption) ?_)); rotate_left; focus (first | omega | (simp; done) | (simp; omega))))))); go_split_ands
  have HCE := Lib.hid hcells
  clear hcells hcc hff hbel
  generalize turned T k (r % 256) = U at *
  go_wp2_with (first
    | (go_at_call 42; go_loud (((with_reducible refine (KD.out _).mono ?_); rintro e w3 ⟨rfl, hbel⟩; obtain ⟨hcc, hff⟩ := bcell hbel; have hsz := hbel.size; (try simp at hsz); have hF : Below w.heap.size w w3 := (by ((repeat' apply And.intro) <;> first | (simp [go_sem, *]; done) | omega | (repeat' (first | with_reducible exact Below.refl _ _ | with_reducible assumption | ((with_reducible refine Below.drew ?_)) | ((with_reducible refine below_drewN ?_ _)) | ((with_reducible refine Below.alloc ?_ ?_ _); rotate_left; focus (first | omega | (simp; done) | (simp; omega))) | ((with_reducible refine Below.setCell ?_ ?_ _); rotate_left; focus (first | omega | (simp; done) | (simp; omega))) | ((with_reducible refine Below.trans ?_ (Below.mono (by with_reducible assumption) ?_)); rotate_left; focus (first | omega | (simp; done) | (simp; omega))))))); go_split_ands; clear hcc hff hbel)))
    | (go_at_call 36; ((with_reducible refine (KF.out _).mono ?_); rintro e w2 ⟨rfl, hbel⟩; obtain ⟨hcc, hff⟩ := bcell hbel; have hsz := hbel.size; (try simp at hsz); have hF : Below w.heap.size w w2 := (by ((repeat' apply And.intro) <;> first | (simp [go_sem, *]; done) | omega | (repeat' (first | with_reducible exact Below.refl _ _ | with_reducible assumption | ((with_reducible refine Below.drew ?_)) | ((with_reducible refine below_drewN ?_ _)) | ((with_reducible refine Below.alloc ?_ ?_ _); rotate_left; focus (first | omega | (simp; done) | (simp; omega))) | ((with_reducible refine Below.setCell ?_ ?_ _); rotate_left; focus (first | omega | (simp; done) | (simp; omega))) | ((with_reducible refine Below.trans ?_ (Below.mono (by with_reducible assumption) ?_)); rotate_left; focus (first | omega | (simp; done) | (simp; omega))))))); go_split_ands; clear hcc hff hbel)))
  (go_ret; refine ⟨?_, ?_⟩; (focus (exact rfl)); ((repeat' (first | with_reducible exact Below.refl _ _ | with_reducible assumption | ((with_reducible refine Below.drew ?_)) | ((with_reducible refine below_drewN ?_ _)) | ((with_reducible refine Below.alloc ?_ ?_ _); rotate_left; focus (first | omega | (simp; done) | (simp; omega))) | ((with_reducible refine Below.setCell ?_ ?_ _); rotate_left; focus (first | omega | (simp; done) | (simp; omega))) | ((with_reducible refine Below.trans ?_ (Below.mono (by with_reducible assumption) ?_)); rotate_left; focus (first | omega | (simp; done) | (simp; omega))))); done))
theorem ipv4Turned_law (tos idn flg ofs ttl pro src dst : Int) (O body : ByteArray) (p r : Int) (w0 : (Lit.int .u8 tos).wf = true) (w1 : (Lit.int .u16 idn).wf = true) (w2 : (Lit.int .u8 flg).wf = true) (w3 : (Lit.int .u16 ofs).wf = true) (w4 : (Lit.int .u8 ttl).wf = true) (w5 : (Lit.int .u8 pro).wf = true) (w6 : (Lit.int .u32 src).wf = true) (w7 : (Lit.int .u32 dst).wf = true) (w8 : O.size ≤ maxLen) (w9 : body.size ≤ maxLen) (w10 : (Lit.int .i64 p).wf = true) (w11 : (Lit.int .i64 r).wf = true) (w : World) :
    Calls Try.prog 13 #[.agg #[.int .u8 tos, .int .u16 idn, .int .u8 flg, .int .u16 ofs, .int .u8 ttl, .int .u8 pro, .int .u32 src, .int .u32 dst, .string O], .string body, .agg #[.int .i64 p, .int .i64 r]] w fun e w' => e = .returned (.bool true) ∧ Below w.heap.size w w' := by
  have b0 := bounds_u8 w0
  have b1 := bounds_u16 w1
  have b2 := bounds_u8 w2
  have b3 := bounds_u16 w3
  have b4 := bounds_u8 w4
  have b5 := bounds_u8 w5
  have b6 := bounds_u32 w6
  have b7 := bounds_u32 w7
  have bp := bounds_i64 w10
  unfold maxLen at w8 w9
  have hi : (0 ≤ tos ∧ tos ≤ 255) ∧ (0 ≤ idn ∧ idn ≤ 65535) ∧ (0 ≤ flg ∧ flg ≤ 255) ∧ (0 ≤ ofs ∧ ofs ≤ 65535) ∧ (0 ≤ ttl ∧ ttl ≤ 255) ∧ (0 ≤ pro ∧ pro ≤ 255) ∧ (0 ≤ src ∧ src ≤ 4294967295) ∧ (0 ≤ dst ∧ dst ≤ 4294967295) := by omega
  by_cases h1 : 7 < flg ∨ 8191 < ofs
  · exact ltu_bad tos idn flg ofs ttl pro src dst O body p r 1 (.inl rfl) _ (fun z => enc_arg tos idn flg ofs ttl pro src dst O body hi h1 z) w
  by_cases h2 : 40 < O.size
  · exact ltu_bad tos idn flg ofs ttl pro src dst O body p r 2 (.inr rfl) _ (fun z => enc_opts tos idn flg ofs ttl pro src dst O body hi (by omega) (by omega) h2 (by omega) z) w
  by_cases h3 : 65535 - 20 - (fil O).size < body.size
  · exact ltu_bad tos idn flg ofs ttl pro src dst O body p r 2 (.inr rfl) _ (fun z => enc_long tos idn flg ofs ttl pro src dst O body hi (by omega) (by omega) (by omega) h3 (by omega) z) w
  have hfs := fil_size O
  have hf4 := fil_four O
  have hF40 : (fil O).size ≤ 40 := by omega
  have hsz := encs_size tos idn flg ofs ttl pro src dst (fil O) body
  have ke := fun z => enc_ok tos idn flg ofs ttl pro src dst O body hi (by omega) (by omega) (by omega) (by omega) z
  have ku := fun z => rfull_c O (by omega) z
  by_cases hp : p < 1 ∨ (20 + (fil O).size : Int) ≤ p
  · exact ltu_four tos idn flg ofs ttl pro src dst O body p r _ (fil O) ke ku hF40 (by omega) (by omega) bp (by rcases hp with h | h; exact .inl h; exact .inr (.inl h)) w
  obtain ⟨k, hk⟩ : ∃ k : Nat, p = k := ⟨p.toNat, by omega⟩
  by_cases hv : r % 256 = byt (encs tos idn flg ofs ttl pro src dst (fil O) body) k
  · exact ltu_four tos idn flg ofs ttl pro src dst O body p r _ (fil O) ke ku hF40 (by omega) (by omega) bp (.inr (.inr ⟨k, hk, hv⟩)) w
  obtain ⟨e, he, kd⟩ := turned_dec tos idn flg ofs ttl pro src dst (fil O) body hi (by omega) (by omega) hF40 hf4 (by omega) k (r % 256) (by omega) (by omega) (by omega) hv
  exact ltu_turn tos idn flg ofs ttl pro src dst O body p r _ (fil O) ke ku hF40 (by omega) (by omega) k hk (by omega) (by omega) hv e he kd w
end Go.Proofs.Ytpjanaljmnfccaa
