/- ipv4.Encode of a datagram that may be. -/
import Derived.Test.YtnfhiagbbmaobaaIp7
namespace Go.Proofs.Ytnfhiagbbmaobaa
set_option linter.unusedVariables false
set_option linter.unusedSimpArgs false
set_option maxRecDepth 100000
open Go.RowKit Fg Reg
attribute [local irreducible] Reg.wE Reg2.wT Reg.wN World.ownsRow

/-- The header's first ten bytes, and what stands behind the sum. -/
def eh1 (tos idn flg ofs ttl pro : Int) (F body : ByteArray) : List Int := e10 (64 + (20 + (F.size : Int)) / 4) tos (20 + (F.size : Int) + (body.size : Int)) idn (flg * 8192 + ofs) ttl pro
def eh2 (src dst : Int) (F : ByteArray) : List Int := by4 src ++ by4 dst ++ bl F
/-- A datagram's bytes. -/
def encs (tos idn flg ofs ttl pro src dst : Int) (F body : ByteArray) : ByteArray :=
  strOf (eh1 tos idn flg ofs ttl pro F body ++ by2 (65535 - sumb (zeroed (strOf (eh1 tos idn flg ofs ttl pro F body ++ by2 0 ++ eh2 src dst F)))) ++ eh2 src dst F) ++ body
set_option maxHeartbeats 8000000 in
theorem enc_ok (tos idn flg ofs ttl pro src dst : Int) (O body : ByteArray) (hi : (0 ≤ tos ∧ tos ≤ 255) ∧ (0 ≤ idn ∧ idn ≤ 65535) ∧ (0 ≤ flg ∧ flg ≤ 255) ∧ (0 ≤ ofs ∧ ofs ≤ 65535) ∧ (0 ≤ ttl ∧ ttl ≤ 255) ∧ (0 ≤ pro ∧ pro ≤ 255) ∧ (0 ≤ src ∧ src ≤ 4294967295) ∧ (0 ≤ dst ∧ dst ≤ 4294967295)) (h1 : flg ≤ 7) (h2 : ofs ≤ 8191) (h : O.size ≤ 40) (hb : body.size ≤ 65535 - 20 - (fil O).size) (w : World) : Calls Try.prog 17 #[.agg #[.int .u8 tos, .int .u16 idn, .int .u8 flg, .int .u16 ofs, .int .u8 ttl, .int .u8 pro, .int .u32 src, .int .u32 dst, .string O], .string body] w fun ee w' => ee = .returned (.tuple #[.string (encs tos idn flg ofs ttl pro src dst (fil O) body), .int .i64 0]) ∧ Below w.heap.size w w' := by
  have d1 : decide (7 < flg) = false := by simp; omega
  have d2 : decide (8191 < ofs) = false := by simp; omega
  have d3 : decide (40 < (O.size : Int)) = false := by simp; omega
  have KF := Lib.hid (fun z => fill_c O (by omega) z)
  have hfs := fil_size O
  have hfb : (fil O).size ≤ 40 := by omega
  have hf4 := fil_four O
  clear hfs
  generalize fil O = F at *
  have d4 : decide (65535 - (20 + (F.size : Int)) < (body.size : Int)) = false := by simp; omega
  have W1 : IntKind.u64.wrap (flg * 8192) = flg * 8192 := by rw [wrap_u64]; omega
  have ho := or_flags (f := flg) (o := ofs) (by omega) (by omega)
  have hbs : (body.size : Int) ≤ 65535 := by omega
  have hFs : (F.size : Int) ≤ 40 := by omega
  clear h hb hf4
  obtain ⟨ie, HI0, HZ0, HZ1, HZ2⟩ := u8_parts
  obtain ⟨⟨i1, i2⟩, ⟨i3, i4⟩, ⟨i5, i6⟩, ⟨i7, i8⟩, ⟨i9, i10⟩, ⟨i11, i12⟩, ⟨i13, i14⟩, i15, i16⟩ := hi
  go_enter Try.func17, Try.ntmps17
  go_wp2_with (first
    | (go_at_call 48; ((with_reducible refine (KF.out _).mono ?_); rintro e w1 ⟨rfl, hbel⟩; obtain ⟨hcc, hff⟩ := bcell hbel; have hsz := hbel.size; (try simp at hsz); (have hH : (w1.cell? ⟨w.heap.size, 0, none⟩ = some (.int .u8 tos) ∧ w1.cell? ⟨w.heap.size, 1, none⟩ = some (.int .u16 idn) ∧ w1.cell? ⟨w.heap.size, 2, none⟩ = some (.int .u8 flg) ∧ w1.cell? ⟨w.heap.size, 3, none⟩ = some (.int .u16 ofs) ∧ w1.cell? ⟨w.heap.size, 4, none⟩ = some (.int .u8 ttl) ∧ w1.cell? ⟨w.heap.size, 5, none⟩ = some (.int .u8 pro) ∧ w1.cell? ⟨w.heap.size, 6, none⟩ = some (.int .u32 src) ∧ w1.cell? ⟨w.heap.size, 7, none⟩ = some (.int .u32 dst) ∧ w1.cell? ⟨w.heap.size, 8, none⟩ = some (.string O) ∧ w.heap.size < w1.heap.size) ∧ Below w.heap.size w w1 := (by ((repeat' apply And.intro) <;> first | (simp [go_sem, *]; done) | omega | (repeat' (first | with_reducible exact Below.refl _ _ | with_reducible assumption | ((with_reducible refine Below.drew ?_)) | ((with_reducible refine below_drewN ?_ _)) | ((with_reducible refine Below.alloc ?_ ?_ _); rotate_left; focus (first | omega | (simp; done) | (simp; omega))) | ((with_reducible refine Below.setCell ?_ ?_ _); rotate_left; focus (first | omega | (simp; done) | (simp; omega))) | ((with_reducible refine Below.trans ?_ (Below.mono (by with_reducible assumption) ?_)); rotate_left; focus (first | omega | (simp; done) | (simp; omega)))))))); clear hcc hff hbel; obtain ⟨⟨k0, k1, k2, k3, k4, k5, k6, k7, k8, k9⟩, hbel⟩ := hH; (have hlt1 := k9); (have hO := ou_new w1); (have hcq := hO.cell); (have hBw : Below w.heap.size w (w1.alloc (.cells #[.slice none 0 0] 43)) := (by repeat' (first | with_reducible exact Below.refl _ _ | with_reducible assumption | ((with_reducible refine Below.drew ?_)) | ((with_reducible refine below_drewN ?_ _)) | ((with_reducible refine Below.alloc ?_ ?_ _); rotate_left; focus (first | omega | (simp; done) | (simp; omega))) | ((with_reducible refine Below.setCell ?_ ?_ _); rotate_left; focus (first | omega | (simp; done) | (simp; omega))) | ((with_reducible refine Below.trans ?_ (Below.mono (by with_reducible assumption) ?_)); rotate_left; focus (first | omega | (simp; done) | (simp; omega))))))))
    | (go_at_call 49; ((have hbg := hO.big); (with_reducible refine (put1_c _ (by omega) hO (by first | decide | (simp [by1, by2, by4]; done))).mono ?_); clear hO; rintro e w3 ⟨rfl, v3, hO, ho⟩; (have hcc := fun b o (h1 : b < w1.heap.size) => ho.cell (b := b) (o := o) (by omega) (by omega)); (have hBn := ho.below hBw (by first | omega | (simp; omega)) (fun k hk => by omega)); (clear hBw hcq); (have hBw := hBn); (clear hBn); (have hcq := hO.cell); (have hsz := ho.size); (try simp at hsz); (have hH : w3.cell? ⟨w.heap.size, 0, none⟩ = some (.int .u8 tos) ∧ w3.cell? ⟨w.heap.size, 1, none⟩ = some (.int .u16 idn) ∧ w3.cell? ⟨w.heap.size, 2, none⟩ = some (.int .u8 flg) ∧ w3.cell? ⟨w.heap.size, 3, none⟩ = some (.int .u16 ofs) ∧ w3.cell? ⟨w.heap.size, 4, none⟩ = some (.int .u8 ttl) ∧ w3.cell? ⟨w.heap.size, 5, none⟩ = some (.int .u8 pro) ∧ w3.cell? ⟨w.heap.size, 6, none⟩ = some (.int .u32 src) ∧ w3.cell? ⟨w.heap.size, 7, none⟩ = some (.int .u32 dst) ∧ w3.cell? ⟨w.heap.size, 8, none⟩ = some (.string O) ∧ w.heap.size < w3.heap.size := (by ((repeat' apply And.intro) <;> first | (simp [go_sem, *]; done) | omega | (repeat' (first | with_reducible exact Below.refl _ _ | with_reducible assumption | ((with_reducible refine Below.drew ?_)) | ((with_reducible refine below_drewN ?_ _)) | ((with_reducible refine Below.alloc ?_ ?_ _); rotate_left; focus (first | omega | (simp; done) | (simp; omega))) | ((with_reducible refine Below.setCell ?_ ?_ _); rotate_left; focus (first | omega | (simp; done) | (simp; omega))) | ((with_reducible refine Below.trans ?_ (Below.mono (by with_reducible assumption) ?_)); rotate_left; focus (first | omega | (simp; done) | (simp; omega)))))))); (clear k0 k1 k2 k3 k4 k5 k6 k7 k8 k9 hcc ho hbg); obtain ⟨k0, k1, k2, k3, k4, k5, k6, k7, k8, k9⟩ := hH))
    | (go_at_call 49; ((have hbg := hO.big); (with_reducible refine (put2_c _ (by omega) hO (by first | decide | (simp [by1, by2, by4]; done))).mono ?_); clear hO; rintro e w3 ⟨rfl, v3, hO, ho⟩; (have hcc := fun b o (h1 : b < w1.heap.size) => ho.cell (b := b) (o := o) (by omega) (by omega)); (have hBn := ho.below hBw (by first | omega | (simp; omega)) (fun k hk => by omega)); (clear hBw hcq); (have hBw := hBn); (clear hBn); (have hcq := hO.cell); (have hsz := ho.size); (try simp at hsz); (have hH : w3.cell? ⟨w.heap.size, 0, none⟩ = some (.int .u8 tos) ∧ w3.cell? ⟨w.heap.size, 1, none⟩ = some (.int .u16 idn) ∧ w3.cell? ⟨w.heap.size, 2, none⟩ = some (.int .u8 flg) ∧ w3.cell? ⟨w.heap.size, 3, none⟩ = some (.int .u16 ofs) ∧ w3.cell? ⟨w.heap.size, 4, none⟩ = some (.int .u8 ttl) ∧ w3.cell? ⟨w.heap.size, 5, none⟩ = some (.int .u8 pro) ∧ w3.cell? ⟨w.heap.size, 6, none⟩ = some (.int .u32 src) ∧ w3.cell? ⟨w.heap.size, 7, none⟩ = some (.int .u32 dst) ∧ w3.cell? ⟨w.heap.size, 8, none⟩ = some (.string O) ∧ w.heap.size < w3.heap.size := (by ((repeat' apply And.intro) <;> first | (simp [go_sem, *]; done) | omega | (repeat' (first | with_reducible exact Below.refl _ _ | with_reducible assumption | ((with_reducible refine Below.drew ?_)) | ((with_reducible refine below_drewN ?_ _)) | ((with_reducible refine Below.alloc ?_ ?_ _); rotate_left; focus (first | omega | (simp; done) | (simp; omega))) | ((with_reducible refine Below.setCell ?_ ?_ _); rotate_left; focus (first | omega | (simp; done) | (simp; omega))) | ((with_reducible refine Below.trans ?_ (Below.mono (by with_reducible assumption) ?_)); rotate_left; focus (first | omega | (simp; done) | (simp; omega)))))))); (clear k0 k1 k2 k3 k4 k5 k6 k7 k8 k9 hcc ho hbg); obtain ⟨k0, k1, k2, k3, k4, k5, k6, k7, k8, k9⟩ := hH))
    | (go_at_call 49; ((have hbg := hO.big); (with_reducible refine (put4_c _ (by omega) hO (by first | decide | (simp [by1, by2, by4]; done))).mono ?_); clear hO; rintro e w3 ⟨rfl, v3, hO, ho⟩; (have hcc := fun b o (h1 : b < w1.heap.size) => ho.cell (b := b) (o := o) (by omega) (by omega)); (have hBn := ho.below hBw (by first | omega | (simp; omega)) (fun k hk => by omega)); (clear hBw hcq); (have hBw := hBn); (clear hBn); (have hcq := hO.cell); (have hsz := ho.size); (try simp at hsz); (have hH : w3.cell? ⟨w.heap.size, 0, none⟩ = some (.int .u8 tos) ∧ w3.cell? ⟨w.heap.size, 1, none⟩ = some (.int .u16 idn) ∧ w3.cell? ⟨w.heap.size, 2, none⟩ = some (.int .u8 flg) ∧ w3.cell? ⟨w.heap.size, 3, none⟩ = some (.int .u16 ofs) ∧ w3.cell? ⟨w.heap.size, 4, none⟩ = some (.int .u8 ttl) ∧ w3.cell? ⟨w.heap.size, 5, none⟩ = some (.int .u8 pro) ∧ w3.cell? ⟨w.heap.size, 6, none⟩ = some (.int .u32 src) ∧ w3.cell? ⟨w.heap.size, 7, none⟩ = some (.int .u32 dst) ∧ w3.cell? ⟨w.heap.size, 8, none⟩ = some (.string O) ∧ w.heap.size < w3.heap.size := (by ((repeat' apply And.intro) <;> first | (simp [go_sem, *]; done) | omega | (repeat' (first | with_reducible exact Below.refl _ _ | with_reducible assumption | ((with_reducible refine Below.drew ?_)) | ((with_reducible refine below_drewN ?_ _)) | ((with_reducible refine Below.alloc ?_ ?_ _); rotate_left; focus (first | omega | (simp; done) | (simp; omega))) | ((with_reducible refine Below.setCell ?_ ?_ _); rotate_left; focus (first | omega | (simp; done) | (simp; omega))) | ((with_reducible refine Below.trans ?_ (Below.mono (by with_reducible assumption) ?_)); rotate_left; focus (first | omega | (simp; done) | (simp; omega)))))))); (clear k0 k1 k2 k3 k4 k5 k6 k7 k8 k9 hcc ho hbg); obtain ⟨k0, k1, k2, k3, k4, k5, k6, k7, k8, k9⟩ := hH))
    | (at_builtin; go_loud (refine Lib.wpList_append_own_string _ rfl _ _ 43 9 rfl (w1.heap.size + 1) 5 ie Try.underlying43 Try.underlying9 HI0 HZ0 HZ1 HZ2 _ _ _ rfl hO.own F rfl ?c1 ?c2 ?c3 ?_)))
  case c1 => simp [by1, by2, by4, maxLen]; omega
  case c2 => simp [by1, by2, by4]; omega
  case c3 => exact hO.big
  intro v' w5 hown' hgrow _
  have hown5 := own_list (L := e10 (64 + (20 + (F.size : Int)) / 4) tos (20 + (F.size : Int) + (body.size : Int)) idn (flg * 8192 + ofs) ttl pro ++ by2 0 ++ (by4 src ++ by4 dst ++ bl F)) hown' (by rw [bl_cells]; simp only [e10, List.map_append, List.append_assoc, List.nil_append])
  clear hown'
  have hlE := e10_len (64 + (20 + (F.size : Int)) / 4) tos (20 + (F.size : Int) + (body.size : Int)) idn (flg * 8192 + ofs) ttl pro
  have hlR : (by4 src ++ by4 dst ++ bl F).length = 8 + F.size := by simp [by4, bl_len]; omega
  have hblk := row_blk hO.own
  have hq1 : w1.heap.size < w3.heap.size := by have := hO.big; omega
  have hne : some w1.heap.size ≠ v3.ownBlock := fun e => by have := hblk _ e.symm; omega
  have hq5 : w5.cell? ⟨w1.heap.size, 0, none⟩ = some v3 := hgrow.cell hcq hne
  have hfq5 : w5.frozen? ⟨w1.heap.size, 0, none⟩ = false := ((only_grown' hgrow).frozen hq1 (fun e => hne e.symm)).trans hO.fz
  have hB5 : Below w.heap.size w w5 := (only_grown' hgrow).below hBw (by omega) (fun k hk => by have := hblk _ hk; omega)
  have hbig5 : w1.heap.size + 1 ≤ w5.heap.size := by have := hO.big; have := hgrow.size; omega
  have hfin : encs tos idn flg ofs ttl pro src dst F body = strOf (e10 (64 + (20 + (F.size : Int)) / 4) tos (20 + (F.size : Int) + (body.size : Int)) idn (flg * 8192 + ofs) ttl pro ++ by2 (65535 - sumb (zeroed (strOf (e10 (64 + (20 + (F.size : Int)) / 4) tos (20 + (F.size : Int) + (body.size : Int)) idn (flg * 8192 + ofs) ttl pro ++ by2 0 ++ (by4 src ++ by4 dst ++ bl F))))) ++ (by4 src ++ by4 dst ++ bl F)) ++ body := rfl
  generalize e10 (64 + (20 + (F.size : Int)) / 4) tos (20 + (F.size : Int) + (body.size : Int)) idn (flg * 8192 + ofs) ttl pro = E at *
  generalize by4 src ++ by4 dst ++ bl F = R at *
  have HFIN := Lib.hid hfin
  clear hfin
  obtain ⟨n, hn⟩ : ∃ n, (E ++ by2 0 ++ R).length = n := ⟨_, rfl⟩
  rw [hn] at hown5
  have hn20 : n = 20 + F.size := by rw [← hn, List.length_append, List.length_append, hlE, hlR]; simp [by2]; omega
  have HN := Lib.hid hn
  have HLE := Lib.hid hlE
  have HN20 := Lib.hid hn20
  obtain ⟨ao, cap, rfl⟩ := row_form hown5
  clear hblk hn hlE hlR hn20 hne hgrow hBw hO hcq
  generalize hqe : w1.heap.size = q at *
  clear hqe
  go_wp2
  refine shrunk (fun z => OU z q (q + 1) (.slice ao n cap) (E ++ by2 0 ++ R) ∧ Below w.heap.size w z) ?_ ?_
  · have O4 : Only (fun k => k = q) w5 (w5.setCell ⟨q, 0, none⟩ (.slice ao n cap)) := (Only.refl _ _).setOne _ _ _
    refine ⟨⟨by simp [go_sem, hq5], by simp [go_sem, hfq5], by omega, by rw [HN.out]; exact row_only hown5 O4 (fun k hk hk2 => by omega), by simpa [World.setCell] using hbig5⟩, O4.below hB5 hB5.size (fun k hk => by omega)⟩
  rintro w6 ⟨hO, hBw⟩
  clear hown5 hq5 hfq5 hB5 hbig5
  obtain ⟨g, cap', hv, hBg, hG⟩ := hO.row (by have := HN.out; have := HN20.out; omega)
  rw [HN.out] at hv
  obtain ⟨rfl, rfl⟩ : ao = some ⟨g, 0, none⟩ ∧ cap = cap' := by simpa using hv
  clear hv
  have hcq := hO.cell
  have hqs : q < w6.heap.size := by have := hO.big; omega
  have hcap : n ≤ cap := by have := HN.out; obtain ⟨cur, _, h2, _⟩ := hG; omega
  have hn1 : (20 : Int) ≤ n := by have := HN20.out; omega
  have hn0 : (10 : Int) ≤ n := by omega
  have hn2 : (n : Int) ≤ 60 := by have := HN20.out; omega
  have hcn : ¬ cap = 10 := by omega
  have hcn1 : (10 : Int) ≤ cap := by omega
  have hng : ¬ g = q := by omega
  obtain ⟨S0, hS0⟩ : ∃ S0, strOf (E ++ by2 0 ++ R) = S0 := ⟨_, rfl⟩
  have hs0 : S0.size = 20 + F.size := by rw [← hS0, strOf_size, HN.out, HN20.out]
  have KH := Lib.hid (fun z => hsum_c S0 (by omega) (by omega) z)
  have hsb := sumb_bd (zeroed S0)
  have HS0 := Lib.hid hS0
  clear hs0 hS0
  generalize hce : sumb (zeroed S0) = sm at *
  have KC := Lib.hid (fun z => cut2_c (65535 - sm) (by omega) z)
  have HCE := Lib.hid hce
  clear hce
  have hGd : GR w6.drew g cap (E ++ by2 0 ++ R) := hG.below (Below.drew (Below.refl _ _))
  obtain ⟨Cl, hCl⟩ : ∃ Cl : List Value → World → Prop, Cl = ((fun ps wz => (Below w.heap.size w wz ∧ q < wz.heap.size ∧ wz.cell? ⟨q, 0, none⟩ = some (.slice (some ⟨g, 0, none⟩) n cap)) ∧ (match ps with | [] => GR wz g cap (E ++ by2 0 ++ R) | [s] => GR wz g cap (E ++ by2 0 ++ R) ∧ s = Value.string S0 | [_, h] => GR wz g cap (E ++ by2 0 ++ R) ∧ h = Value.int .u16 (65535 - sm) | [_, _, p] => GR wz g cap (E ++ by2 0 ++ R) ∧ ∃ b, p = Value.slice (some ⟨b, 0, none⟩) 2 2 ∧ BR wz b 2 (fun j => (by2 (65535 - sm)).getD j 0) | (_ :: _ :: _ :: _ :: _) => GR wz g cap (E ++ by2 (65535 - sm) ++ R)))) := ⟨_, rfl⟩; have HCl := Lib.hid hCl; clear hCl; refine wp_region_eff [3, 4, 6, 7] Cl (by kernel_rfl) (by kernel_rfl) (by rw [HCl.out]; (try simp only [List.nil_append, List.cons_append]); (try dsimp only); ((repeat' apply And.intro) <;> first | (simp [go_sem, *]; done) | omega | (repeat' (first | with_reducible exact Below.refl _ _ | with_reducible assumption | ((with_reducible refine Below.drew ?_)) | ((with_reducible refine below_drewN ?_ _)) | ((with_reducible refine Below.alloc ?_ ?_ _); rotate_left; focus (first | omega | (simp; done) | (simp; omega))) | ((with_reducible refine Below.setCell ?_ ?_ _); rotate_left; focus (first | omega | (simp; done) | (simp; omega))) | ((with_reducible refine Below.trans ?_ (Below.mono (by with_reducible assumption) ?_)); rotate_left; focus (first | omega | (simp; done) | (simp; omega))))))) ?_
  have HNN := Lib.hid hcap
  refine wE_open (by rfl) (by rfl) ?_
  refine ⟨.slice (some ⟨g, 0, none⟩) n cap, fun vs wq hw => ?_, ?_⟩
  · rw [HCl.out] at hw
    have hcell := hw.1.2.2
    clear hw
    go_simp
  simp only [Act.put, Nat.reduceAdd, List.setIfInBounds_toArray, List.set_cons_zero, List.set_cons_succ, List.nil_append, List.cons_append]
  refine wE_open (by rfl) (by rfl) ?_
  apply Exists.intro
  refine ⟨fun vs wq hw => ?_, ?_⟩
  · clear hw
    go_simp
    exact rfl
  simp only [Act.put, Nat.reduceAdd, List.setIfInBounds_toArray, List.set_cons_zero, List.set_cons_succ, List.nil_append, List.cons_append]
  refine wE_open (by rfl) (by rfl) ?_
  refine ⟨.slice (some ⟨g, 0, none⟩) n cap, fun vs wq hw => ?_, ?_⟩
  · rw [HCl.out] at hw
    have hcell := hw.1.2.2
    clear hw
    go_simp
  simp only [Act.put, Nat.reduceAdd, List.setIfInBounds_toArray, List.set_cons_zero, List.set_cons_succ, List.nil_append, List.cons_append]
  refine wE_eff (by rfl) (by rfl) (fun wq hw => ?_) (fun u hu => ?_)
  · rw [HCl.out] at hw; (try simp only [List.nil_append, List.cons_append] at hw); (try dsimp only at hw)
    have hcv := run_dec wq g 0 n cap (E ++ by2 0 ++ R) HN.out hw.2.cells
    rw [HS0.out] at hcv
    have HW := Lib.hid hw
    clear hw
    go_simp
    rw [HCl.out]; (try simp only [List.nil_append, List.cons_append]); (try dsimp only)
    exact ⟨HW.out.1, HW.out.2, trivial⟩
  obtain ⟨wz, hz⟩ := hu
  rw [HCl.out] at hz
  (try simp only [List.nil_append, List.cons_append] at hz)
  (try dsimp only at hz)
  obtain ⟨-, -, rfl⟩ := hz
  simp only [Act.put, Nat.reduceAdd, List.setIfInBounds_toArray, List.set_cons_zero, List.set_cons_succ, List.nil_append, List.cons_append]
  refine wE_eff (by rfl) (by rfl) (fun wq hw => ?_) (fun u hu => ?_)
  · rw [HCl.out] at hw; (try simp only [List.nil_append, List.cons_append] at hw); (try dsimp only at hw)
    have HW := Lib.hid hw
    clear hw
    go_simp
    (with_reducible refine (KH.out _).mono ?_)
    rintro e wn ⟨rfl, hbel⟩
    refine ⟨_, rfl, ?_⟩
    rw [HCl.out]; (try simp only [List.nil_append, List.cons_append]); (try dsimp only)
    obtain ⟨⟨hb, hq, hc⟩, hGq, -⟩ := HW.out
    exact ⟨⟨Below.trans hb (hbel.mono hb.size), Nat.lt_of_lt_of_le hq hbel.size, (hbel.cell (p := ⟨q, 0, none⟩) hq).trans hc⟩, hGq.below hbel, trivial⟩
  obtain ⟨wz, hz⟩ := hu
  rw [HCl.out] at hz
  (try simp only [List.nil_append, List.cons_append] at hz)
  (try dsimp only at hz)
  obtain ⟨-, -, rfl⟩ := hz
  simp only [Act.put, Nat.reduceAdd, List.setIfInBounds_toArray, List.set_cons_zero, List.set_cons_succ, List.nil_append, List.cons_append]
  refine wE_open (by rfl) (by rfl) ?_
  apply Exists.intro
  refine ⟨fun vs wq hw => ?_, ?_⟩
  · clear hw
    go_simp <;> ((try go_bits) <;> exact rfl)
  simp only [Act.put, Nat.reduceAdd, List.setIfInBounds_toArray, List.set_cons_zero, List.set_cons_succ, List.nil_append, List.cons_append]
  refine wE_eff (by rfl) (by rfl) (fun wq hw => ?_) (fun u hu => ?_)
  · rw [HCl.out] at hw; (try simp only [List.nil_append, List.cons_append] at hw); (try dsimp only at hw)
    have HW := Lib.hid hw
    clear hw
    go_simp
    (with_reducible refine (KC.out _).mono ?_)
    rintro e wn ⟨b, rfl, hbb, hR, hbel⟩
    refine ⟨_, rfl, ?_⟩
    rw [HCl.out]; (try simp only [List.nil_append, List.cons_append]); (try dsimp only)
    obtain ⟨⟨hb, hq, hc⟩, hGq, -⟩ := HW.out
    exact ⟨⟨Below.trans hb (hbel.mono hb.size), Nat.lt_of_lt_of_le hq hbel.size, (hbel.cell (p := ⟨q, 0, none⟩) hq).trans hc⟩, hGq.below hbel, b, rfl, hR⟩
  obtain ⟨wz, hz⟩ := hu
  rw [HCl.out] at hz
  (try simp only [List.nil_append, List.cons_append] at hz)
  (try dsimp only at hz)
  obtain ⟨-, -, b, rfl, -⟩ := hz
  simp only [Act.put, Nat.reduceAdd, List.setIfInBounds_toArray, List.set_cons_zero, List.set_cons_succ, List.nil_append, List.cons_append]
  refine wE_eff (by rfl) (by rfl) (fun wq hw => ?_) (fun u hu => ?_)
  · rw [HCl.out] at hw; (try simp only [List.nil_append, List.cons_append] at hw); (try dsimp only at hw)
    obtain ⟨⟨hb, hq, hc⟩, hGq, b', hbe, hR⟩ := hw
    obtain rfl : b = b' := by simpa using hbe
    obtain ⟨w', hr, hG', ho⟩ := hGq.patch HLE.out ((65535 - sm) / 256 % 256) ((65535 - sm) % 256) hR rfl rfl 3 (n - 10) (cap - 10) (by omega)
    refine eff_copy (.tmp 93) (.tmp 98) 43 43 rfl ?_ rfl hr ?_
    · first | rfl | simp
    rw [HCl.out]; (try simp only [List.nil_append, List.cons_append]); (try dsimp only)
    exact ⟨⟨ho.below hb hb.size (fun k hk => by omega), Nat.lt_of_lt_of_le hq ho.size, (ho.cell hq (fun e => hng e.symm)).trans hc⟩, hG'⟩
  clear hu
  simp only [Act.put, Nat.reduceAdd, List.setIfInBounds_toArray, List.set_cons_zero, List.set_cons_succ, List.nil_append, List.cons_append]
  refine wE_nil ?_
  intro w7 hw
  rw [HCl.out] at hw; (try simp only [List.nil_append, List.cons_append] at hw); (try dsimp only at hw)
  clear HCl
  obtain ⟨⟨hb7, hq7, hc7⟩, hG7⟩ := hw
  have hcv := run_dec w7 g 0 n cap (E ++ by2 (65535 - sm) ++ R) (by have := HN.out; simpa [by2] using this) hG7.cells
  have hadd := fun w => run_string_add_sum (P := Try.prog) (w := w) (strOf (E ++ by2 (65535 - sm) ++ R)) body (by rw [strOf_size, List.length_append, List.length_append]; have := HN.out; have := HN20.out; simp [by2] at *; omega)
  have hfin := HFIN.out
  rw [HS0.out, HCE.out] at hfin
  generalize strOf (E ++ by2 (65535 - sm) ++ R) = Y at hcv hadd hfin
  have HF2 := Lib.hid hfin
  clear hfin
  go_wp2
  go_ret2
  exact ⟨by rw [HF2.out]; rfl, hb7⟩
end Go.Proofs.Ytnfhiagbbmaobaa
