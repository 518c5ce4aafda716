/- Items. -/
import Derived.Test.YtikmdkmejbcmmaaAv17
import Derived.Test.YtikmdkmejbcmmaaAppR
namespace Go.Proofs.Ytikmdkmejbcmmaa
set_option linter.unusedVariables false
set_option linter.unusedSimpArgs false
set_option maxRecDepth 100000
open Go.RowKit Fg Reg
attribute [local irreducible] Reg.wE NT

def It.cells (x : It) : List Value := [.int .u64 x.ka, .int .i64 x.ki, .int .u64 x.va, .int .i64 x.vi]
theorem itC : CellsOf It.cells 4 := ⟨fun _ => rfl, fun x v hv => by simp [It.cells] at hv; rcases hv with rfl | rfl | rfl | rfl <;> rfl, by decide⟩
theorem it_info : (Try.prog.info? 47).map (fun i => (i.zero, i.size, i.bytes)) = some (some (.agg #[.int .u64 0, .int .i64 0, .int .u64 0, .int .i64 0]), 4, 32) := by kernel_rfl
theorem it_parts : ∃ i, Try.prog.info? 47 = some i ∧ i.zero = some (.agg #[.int .u64 0, .int .i64 0, .int .u64 0, .int .i64 0]) ∧ i.size = 4 ∧ i.bytes = 32 := by
  obtain ⟨i, hi, h⟩ := Option.map_eq_some_iff.1 it_info
  injection h with h1 h2
  injection h2 with h2 h3
  exact ⟨i, hi, h1, h2, h3⟩
theorem emit_c (x : It) (l : List It) (ob base : Nat) (ao : Option Addr) (cap : Nat) (w : World) (hc : w.cell? ⟨ob, 0, none⟩ = some (.slice ao l.length cap)) (hfz : w.frozen? ⟨ob, 0, none⟩ = false) (hob : ob < base) (hbs : base ≤ w.heap.size) (hown : w.ownsRow base 47 4 (.slice ao (l).length cap) (l).length ((l).flatMap It.cells)) (hl : l.length < 1000) :
    Calls Try.prog 65 #[.agg #[.int .u64 (x).ka, .int .i64 (x).ki, .int .u64 (x).va, .int .i64 (x).vi], .pointer (some ⟨ob, 0, none⟩)] w fun e w' => e = .returned (.tuple #[]) ∧ ∃ ao' cap', w'.cell? ⟨ob, 0, none⟩ = some (.slice ao' (l ++ [x]).length cap') ∧ w'.frozen? ⟨ob, 0, none⟩ = false ∧ base ≤ w'.heap.size ∧ w'.ownsRow base 47 4 (.slice ao' (l ++ [x]).length cap') (l ++ [x]).length ((l ++ [x]).flatMap It.cells) ∧ Below ob w w' := by
  obtain ⟨ii, ci0, cz0, cz1, cz2⟩ := it_parts
  have CI0 := Lib.hid ci0
  have CZ0 := Lib.hid cz0
  have CZ1 := Lib.hid cz1
  have CZ2 := Lib.hid cz2
  have HOWN := Lib.hid hown
  obtain ⟨n, hn⟩ : ∃ n, l.length = n := ⟨_, rfl⟩
  have HN := Lib.hid hn
  rw [hn] at hc hl
  have lob : ob < w.heap.size := by omega
  have lob2 : ob < w.heap.size + 1 := by omega
  have lob3 : ob < w.heap.size + 1 + 1 := by omega
  clear ci0 cz0 cz1 cz2 hown hn
  go_enter Try.func65, Try.ntmps65
  go_wp2_with ((at_builtin; refine wpList_append_own _ rfl _ _ 50 rfl base 47 ii (.agg #[.int .u64 0, .int .i64 0, .int .u64 0, .int .i64 0]) 4 32 Try.underlying50 CI0.out CZ0.out CZ1.out CZ2.out rfl (by decide) (.slice ao n cap) n (l.flatMap It.cells) rfl (World.ownsRow.alloc (World.ownsRow.alloc (by have := HOWN.out; rw [HN.out] at this; exact this) _) _) ⟨_, 0, none⟩ 1 1 (It.cells x) rfl rfl ?c1 ?c2 ?c3 ?c4 ?c5 ?_; (case c1 => (intro j u hu; unfold It.cells at hu; rcases j with _ | _ | _ | _ | j <;> simp at hu <;> (try subst hu) <;> simp [Addr.add, go_sem])); (case c2 => (exact itC.one _)); (case c3 => (unfold maxLen; omega)); (case c4 => omega); (case c5 => (simp; omega)); intro v2 z2 hown2 hg2 _); (have hb2 : Below base w z2 := (Below.alloc (Below.alloc (Below.refl _ _) (by omega) _) (by simp; omega) _).grown hg2 (by simp; omega) (fun k hk => ((HOWN.out.lt k (by rw [HN.out]; exact hk)).1))); (obtain ⟨a2, cap2, rfl⟩ := row_form hown2); (have cc := (hb2.cell (p := ⟨ob, 0, none⟩) hob).trans hc); (have cf := (hb2.frozen (p := ⟨ob, 0, none⟩) hob).trans hfz); (have cl := hb2.size); (have HO2 := Lib.hid hown2); (have HB2 := Lib.hid hb2); clear hown2 hg2 hb2)
  refine bodyPost_end (v := .tuple #[]) (by simp [results, Try.results65]) rfl ⟨rfl, a2, cap2, ?_, ?_, ?_, ?_, ?_⟩
  · rw [List.length_append, List.length_singleton, HN.out]; simp [go_sem, *]; try omega
  · simpa [go_sem] using cf
  · simp [go_sem]; omega
  · have h := HO2.out
    rw [show l.flatMap It.cells ++ It.cells x = (l ++ [x]).flatMap It.cells by rw [List.flatMap_append, List.flatMap_singleton], show n + 1 = (l ++ [x]).length by rw [List.length_append, List.length_singleton, HN.out]] at h
    rw [show (l ++ [x]).length = n + 1 by rw [List.length_append, List.length_singleton, HN.out]] at h ⊢
    exact row_only h ((Only.refl (fun k => k = ob) _).setOne 0 none _) fun k hk hkb => by subst hk; omega
  · exact Below.setCell (B := ob) (p := ⟨ob, 0, none⟩) (HB2.out.mono (Nat.le_of_lt hob)) (Nat.le_refl _) _
theorem NT.belowB {B : Nat} {w w' : World} (h : Below B w w') {t : Tr} (hT : NT w t) (hk : ∀ k ∈ fp t, k < B) : NT w' t :=
  NT.only (S := fun k => B ≤ k) ⟨h.os, h.tape, h.output, h.size, fun k _ hn => h.block k (by omega)⟩ hT fun k hkt hB => by have := hk k hkt; omega
set_option maxHeartbeats 4000000 in
theorem walk_c (ob base : Nat) (hob : ob < base) : ∀ (t : Tr) (l : List It) (ao : Option Addr) (cap : Nat) (w : World), NT w t → (∀ k ∈ fp t, k < ob) → w.cell? ⟨ob, 0, none⟩ = some (.slice ao l.length cap) → w.frozen? ⟨ob, 0, none⟩ = false → base ≤ w.heap.size → w.ownsRow base 47 4 (.slice ao (l).length cap) (l).length ((l).flatMap It.cells) → l.length + (tl t).length < 1000 →
    Calls Try.prog 64 #[pt t, .func (.func 65) #[] #[.pointer (some ⟨ob, 0, none⟩)]] w fun e w' => e = .returned (.tuple #[]) ∧ ∃ ao' cap', w'.cell? ⟨ob, 0, none⟩ = some (.slice ao' (l ++ tl t).length cap') ∧ w'.frozen? ⟨ob, 0, none⟩ = false ∧ base ≤ w'.heap.size ∧ w'.ownsRow base 47 4 (.slice ao' (l ++ tl t).length cap') (l ++ tl t).length ((l ++ tl t).flatMap It.cells) ∧ Below ob w w' := by
  intro t
  induction t with
  | nil =>
    intro l ao cap w hT hk hc hf hb ho hl
    show Calls Try.prog 64 #[.pointer none, .func (.func 65) #[] #[.pointer (some ⟨ob, 0, none⟩)]] w _
    have HO := Lib.hid ho
    rw [show l ++ tl .nil = l by simp [tl]]
    clear ho hT hk hl
    go_enter Try.func64, Try.ntmps64
    go_wp2
    exact bodyPost_ret (by simp [results, Try.results64]) rfl ⟨rfl, ao, cap, hc, hf, hb, HO.out, Below.refl _ _⟩
  | node b y tlf trt ihl ihr =>
    intro l ao cap w hT hk hc hf hb ho hl
    unfold NT at hT
    obtain ⟨hN, hTl, hTr⟩ := hT
    have hbo : b < ob := hk b (by simp [fp])
    obtain ⟨ul, hul⟩ := pt_ptr tlf
    obtain ⟨ur, hur⟩ := pt_ptr trt
    rw [hul, hur] at hN
    have HN := Lib.hid hN
    have hlen : (tl (.node b y tlf trt)).length = (tl tlf).length + ((tl trt).length + 1) := by simp [tl]
    rw [hlen] at hl
    have K1 := Lib.hid (hul ▸ ihl l ao cap w hTl (fun k h => hk k (by simp [fp, h])) hc hf hb ho (by omega))
    have K2 := Lib.hid (fun (z : World) (a1 : Option Addr) (c1 : Nat) (h1 : z.cell? ⟨ob, 0, none⟩ = some (.slice a1 (l ++ tl tlf).length c1)) h2 h3 h4 => emit_c y (l ++ tl tlf) ob base a1 c1 z h1 h2 hob h3 h4 (by rw [List.length_append]; omega))
    have K3 := Lib.hid (fun (z : World) (a1 : Option Addr) (c1 : Nat) (hz : Below ob w z) (h1 : z.cell? ⟨ob, 0, none⟩ = some (.slice a1 (l ++ tl tlf ++ [y]).length c1)) h2 h3 h4 => hur ▸ ihr (l ++ tl tlf ++ [y]) a1 c1 z (NT.belowB hz hTr (fun k h => hk k (by simp [fp, h]))) (fun k h => hk k (by simp [fp, h])) h1 h2 h3 h4 (by rw [List.length_append, List.length_append, List.length_singleton]; omega))
    have eL : l ++ tl (.node b y tlf trt) = l ++ tl tlf ++ [y] ++ tl trt := by simp [tl]
    rw [eL]
    have c4 := hN.c4
    clear ihl ihr hTl hTr hk hc hf ho hl hN hlen eL hul hur
    show Calls Try.prog 64 #[.pointer (some ⟨b, 0, none⟩), .func (.func 65) #[] #[.pointer (some ⟨ob, 0, none⟩)]] w _
    go_enter Try.func64, Try.ntmps64
    go_wp2_with (first
      | (go_at_call 64; (with_reducible refine K1.out.mono ?_); rintro _ w1 ⟨rfl, a1, p1, s1, s2, s3, s4, s5⟩; have c0 := (s5.cell (p := ⟨b, 0, none⟩) hbo).trans HN.out.c0; have c1 := (s5.cell (p := ⟨b, 1, none⟩) hbo).trans HN.out.c1; have c2 := (s5.cell (p := ⟨b, 2, none⟩) hbo).trans HN.out.c2; have c3 := (s5.cell (p := ⟨b, 3, none⟩) hbo).trans HN.out.c3; have c4 := (s5.cell (p := ⟨b, 4, none⟩) hbo).trans HN.out.c4; have c5 := (s5.cell (p := ⟨b, 5, none⟩) hbo).trans HN.out.c5; have S1 := Lib.hid s1; have S2 := Lib.hid s2; have S3 := Lib.hid s3; have S4 := Lib.hid s4; have S5 := Lib.hid s5; clear s1 s2 s3 s4 s5)
      | (go_at_call 65; (with_reducible refine (K2.out w1 a1 p1 S1.out S2.out S3.out S4.out).mono ?_); rintro _ w2 ⟨rfl, a2, p2, s1, s2, s3, s4, s6⟩; have s5 := S5.out.trans s6; have c0 := (s5.cell (p := ⟨b, 0, none⟩) hbo).trans HN.out.c0; have c1 := (s5.cell (p := ⟨b, 1, none⟩) hbo).trans HN.out.c1; have c2 := (s5.cell (p := ⟨b, 2, none⟩) hbo).trans HN.out.c2; have c3 := (s5.cell (p := ⟨b, 3, none⟩) hbo).trans HN.out.c3; have c4 := (s5.cell (p := ⟨b, 4, none⟩) hbo).trans HN.out.c4; have c5 := (s5.cell (p := ⟨b, 5, none⟩) hbo).trans HN.out.c5; have T1 := Lib.hid s1; have T2 := Lib.hid s2; have T3 := Lib.hid s3; have T4 := Lib.hid s4; have T5 := Lib.hid s5; clear s1 s2 s3 s4 s5 s6)
      | (go_at_call 64; (with_reducible refine (K3.out w2 a2 p2 T5.out T1.out T2.out T3.out T4.out).mono ?_); rintro _ w3 ⟨rfl, a3, p3, s1, s2, s3, s4, s6⟩; have U1 := Lib.hid s1; have U2 := Lib.hid s2; have U3 := Lib.hid s3; have U4 := Lib.hid s4; have U6 := Lib.hid s6; clear s1 s2 s3 s4 s6))
    exact bodyPost_end (v := .tuple #[]) (by simp [results, Try.results64]) rfl ⟨rfl, a3, p3, U1.out, U2.out, U3.out, U4.out, T5.out.trans U6.out⟩
theorem items_c (a : Nat) (t : Tr) (w : World) (h : TR w a t) (hl : (tl t).length < 900) : Calls Try.prog 25 #[.pointer (some ⟨a, 0, none⟩)] w fun e w' => ∃ ao cap, e = .returned (.slice ao (tl t).length cap) ∧ RwV It.cells 4 w' ao (tl t) ∧ (∀ ad, ao = some ad → w.heap.size ≤ ad.block) ∧ Below w.heap.size w w' := by
  obtain ⟨r0, r1, f0, f1, lt, nt, nd, bl, ss, ha⟩ := h
  have lt2 : a < w.heap.size + 1 := by omega
  obtain ⟨u0, hu0⟩ := pt_ptr t
  rw [hu0] at r0
  have hlt := fun k hk => NT.lt nt k hk
  have K0 := Lib.hid (fun (z : World) (hz : Below w.heap.size w z) h1 h2 h3 => hu0 ▸ walk_c w.heap.size (w.heap.size + 1) (by omega) t [] none 0 z (NT.below hz nt) hlt h1 h2 h3 (World.ownsRow_nil _ _ _ _) (by simp; omega))
  have hn : ([] ++ tl t).length = (tl t).length := rfl
  clear r1 f0 f1 nt nd bl ss ha hu0 hlt
  go_enter Try.func25, Try.ntmps25
  go_wp2_with (go_at_call 64; (with_reducible refine (K0.out _ (by (repeat' (first | assumption | exact Below.refl _ _ | refine Below.setCell ?_ (by first | (simp; done) | omega | (simp; omega)) _ | refine Below.alloc ?_ (by first | (simp; done) | omega | (simp; omega)) _ | refine Below.drew ?_))) (by simp [go_sem]) (by simp [go_sem]) (by simp)).mono ?_); rintro _ w1 ⟨rfl, ao, cap, s1, s2, s3, s4, s5⟩; (have s1 : w1.cell? ⟨w.heap.size, 0, none⟩ = some (.slice ao (tl t).length cap) := s1); have S4 := Lib.hid s4; have S5 := Lib.hid s5; clear s4 s5)
  go_ret
  obtain ⟨a9, c9, e9, hr9, -, -, h9⟩ := RwV.of_own itC S4.out
  injection e9 with e1 e2 e3
  subst e1 e3
  refine ⟨ao, cap, rfl, hr9, fun ad had => by have := (h9 ad had).1; omega, ?_⟩
  have hb := S5.out
  exact Below.trans ((Below.refl _ _).alloc (Nat.le_refl _) _) hb
end Go.Proofs.Ytikmdkmejbcmmaa
