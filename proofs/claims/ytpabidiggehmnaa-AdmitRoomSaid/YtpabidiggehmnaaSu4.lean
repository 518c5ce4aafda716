/- Sums over curves: what each sum tells; the two curves of the laws. -/
import Derived.Test.YtpabidiggehmnaaSu3
import Derived.Test.YtpabidiggehmnaaQSlice
namespace Go.Proofs.Ytpabidiggehmnaa
set_option linter.unusedVariables false
set_option linter.unusedSimpArgs false
set_option maxRecDepth 100000
open Go.RowKit Fg Reg
attribute [local irreducible] Reg.wE

set_option maxHeartbeats 1000000 in
theorem service_c (t : Int) (ht : In t) (l : List Cv) (a : Option Addr) (c : Nat) (hn : l.length ≤ 100) (hok : ∀ k (h : k < l.length), l[k].ok) (w : World) (hR : RwV Cv.cells 3 w a l) :
    Calls Try.prog 13 #[.slice a l.length c, .int .u64 t] w fun ee w' => ee = .returned (.agg #[.int .u64 (hi (tots (csv t) l)), .int .u64 (lo (tots (csv t) l))]) ∧ Below w.heap.size w w' := by
  have k1 := fun (z : World) (hz : Below w.heap.size w z) (hx : z.cell? ⟨w.heap.size, 0, none⟩ = some (.int .u64 t)) (hxl : w.heap.size < z.heap.size) => totsv_c t ht w.heap.size l a c hn hok z (hR.below hz) hx hxl
  generalize hi (tots (csv t) l) = p at *
  generalize lo (tots (csv t) l) = q at *
  have K1 := Lib.hid k1
  clear k1 hR hok
  go_enter Try.func13, Try.ntmps13
  go_wp2_with (go_at_call 32; ((with_reducible refine (K1.out _ ?_ ?_ ?_).mono ?_); (focus ((repeat' (first | with_reducible exact Below.refl _ _ | with_reducible assumption | ((with_reducible refine Below.drew ?_)) | ((with_reducible refine below_drewN ?_ _)) | ((with_reducible refine Below.alloc ?_ ?_ _); rotate_left; focus (first | omega | (simp; done) | (simp; omega))) | ((with_reducible refine Below.setCell ?_ ?_ _); rotate_left; focus (first | omega | (simp; done) | (simp; omega))) | ((with_reducible refine Below.trans ?_ (Below.mono (by with_reducible assumption) ?_)); rotate_left; focus (first | omega | (simp; done) | (simp; omega))))); done)); (focus (simp [go_sem])); (focus (first | omega | (simp; done) | (simp; omega))); rintro e w1 ⟨rfl, hbel⟩; obtain ⟨hcc, hff⟩ := bcell hbel; have hsz := hbel.size; (try simp at hsz); have hF : (((w1.cell? ⟨w.heap.size + 1, 0, none⟩ = some (.int .u64 (0)) ∧ w1.cell? ⟨w.heap.size + 1, 1, none⟩ = some (.int .u64 (0)) ∧ w.heap.size + 1 < w1.heap.size)) ∧ ((w1.frozen? ⟨w.heap.size + 1, 0, none⟩ = false ∧ w1.frozen? ⟨w.heap.size + 1, 1, none⟩ = false)) ∧ Below w.heap.size w w1) := (by ((repeat' apply And.intro) <;> first | (simp [go_sem, *]; done) | omega | (repeat' (first | with_reducible exact Below.refl _ _ | with_reducible assumption | ((with_reducible refine Below.drew ?_)) | ((with_reducible refine below_drewN ?_ _)) | ((with_reducible refine Below.alloc ?_ ?_ _); rotate_left; focus (first | omega | (simp; done) | (simp; omega))) | ((with_reducible refine Below.setCell ?_ ?_ _); rotate_left; focus (first | omega | (simp; done) | (simp; omega))) | ((with_reducible refine Below.trans ?_ (Below.mono (by with_reducible assumption) ?_)); rotate_left; focus (first | omega | (simp; done) | (simp; omega))))))); go_split_ands; clear hcc hff hbel))
  refine bodyPost_ret (v := .agg #[.int .u64 p, .int .u64 q]) (by simp [results, Try.results13, go_sem, *]) rfl ⟨rfl, (by repeat' (first | with_reducible exact Below.refl _ _ | with_reducible assumption | ((with_reducible refine Below.drew ?_)) | ((with_reducible refine below_drewN ?_ _)) | ((with_reducible refine Below.alloc ?_ ?_ _); rotate_left; focus (first | omega | (simp; done) | (simp; omega))) | ((with_reducible refine Below.setCell ?_ ?_ _); rotate_left; focus (first | omega | (simp; done) | (simp; omega))) | ((with_reducible refine Below.trans ?_ (Below.mono (by with_reducible assumption) ?_)); rotate_left; focus (first | omega | (simp; done) | (simp; omega)))))⟩
set_option maxHeartbeats 1000000 in
theorem slope_c (l : List Cv) (a : Option Addr) (c : Nat) (hn : l.length ≤ 100) (hok : ∀ k (h : k < l.length), l[k].ok) (w : World) (hR : RwV Cv.cells 3 w a l) :
    Calls Try.prog 15 #[.slice a l.length c] w fun ee w' => ee = .returned (.agg #[.int .u64 (hi (tots csl l)), .int .u64 (lo (tots csl l))]) ∧ Below w.heap.size w w' := by
  have k1 := fun (z : World) (hz : Below w.heap.size w z) => totsl_c l a c hn hok z (hR.below hz)
  generalize hi (tots csl l) = p at *
  generalize lo (tots csl l) = q at *
  have K1 := Lib.hid k1
  clear k1 hR hok
  go_enter Try.func15, Try.ntmps15
  go_wp2_with (go_at_call 32; ((with_reducible refine (K1.out _ ?_).mono ?_); (focus ((repeat' (first | with_reducible exact Below.refl _ _ | with_reducible assumption | ((with_reducible refine Below.drew ?_)) | ((with_reducible refine below_drewN ?_ _)) | ((with_reducible refine Below.alloc ?_ ?_ _); rotate_left; focus (first | omega | (simp; done) | (simp; omega))) | ((with_reducible refine Below.setCell ?_ ?_ _); rotate_left; focus (first | omega | (simp; done) | (simp; omega))) | ((with_reducible refine Below.trans ?_ (Below.mono (by with_reducible assumption) ?_)); rotate_left; focus (first | omega | (simp; done) | (simp; omega))))); done)); rintro e w1 ⟨rfl, hbel⟩; obtain ⟨hcc, hff⟩ := bcell hbel; have hsz := hbel.size; (try simp at hsz); have hF : (((w1.cell? ⟨w.heap.size, 0, none⟩ = some (.int .u64 (0)) ∧ w1.cell? ⟨w.heap.size, 1, none⟩ = some (.int .u64 (0)) ∧ w.heap.size < w1.heap.size)) ∧ ((w1.frozen? ⟨w.heap.size, 0, none⟩ = false ∧ w1.frozen? ⟨w.heap.size, 1, none⟩ = false)) ∧ Below w.heap.size w w1) := (by ((repeat' apply And.intro) <;> first | (simp [go_sem, *]; done) | omega | (repeat' (first | with_reducible exact Below.refl _ _ | with_reducible assumption | ((with_reducible refine Below.drew ?_)) | ((with_reducible refine below_drewN ?_ _)) | ((with_reducible refine Below.alloc ?_ ?_ _); rotate_left; focus (first | omega | (simp; done) | (simp; omega))) | ((with_reducible refine Below.setCell ?_ ?_ _); rotate_left; focus (first | omega | (simp; done) | (simp; omega))) | ((with_reducible refine Below.trans ?_ (Below.mono (by with_reducible assumption) ?_)); rotate_left; focus (first | omega | (simp; done) | (simp; omega))))))); go_split_ands; clear hcc hff hbel))
  refine bodyPost_ret (v := .agg #[.int .u64 p, .int .u64 q]) (by simp [results, Try.results15, go_sem, *]) rfl ⟨rfl, (by repeat' (first | with_reducible exact Below.refl _ _ | with_reducible assumption | ((with_reducible refine Below.drew ?_)) | ((with_reducible refine below_drewN ?_ _)) | ((with_reducible refine Below.alloc ?_ ?_ _); rotate_left; focus (first | omega | (simp; done) | (simp; omega))) | ((with_reducible refine Below.setCell ?_ ?_ _); rotate_left; focus (first | omega | (simp; done) | (simp; omega))) | ((with_reducible refine Below.trans ?_ (Below.mono (by with_reducible assumption) ?_)); rotate_left; focus (first | omega | (simp; done) | (simp; omega)))))⟩
set_option maxHeartbeats 1000000 in
theorem steepest_c (l : List Cv) (a : Option Addr) (c : Nat) (hn : l.length ≤ 100) (hok : ∀ k (h : k < l.length), l[k].ok) (w : World) (hR : RwV Cv.cells 3 w a l) :
    Calls Try.prog 17 #[.slice a l.length c] w fun ee w' => ee = .returned (.agg #[.int .u64 (hi (tots cst l)), .int .u64 (lo (tots cst l))]) ∧ Below w.heap.size w w' := by
  have k1 := fun (z : World) (hz : Below w.heap.size w z) => totst_c l a c hn hok z (hR.below hz)
  generalize hi (tots cst l) = p at *
  generalize lo (tots cst l) = q at *
  have K1 := Lib.hid k1
  clear k1 hR hok
  go_enter Try.func17, Try.ntmps17
  go_wp2_with (go_at_call 32; ((with_reducible refine (K1.out _ ?_).mono ?_); (focus ((repeat' (first | with_reducible exact Below.refl _ _ | with_reducible assumption | ((with_reducible refine Below.drew ?_)) | ((with_reducible refine below_drewN ?_ _)) | ((with_reducible refine Below.alloc ?_ ?_ _); rotate_left; focus (first | omega | (simp; done) | (simp; omega))) | ((with_reducible refine Below.setCell ?_ ?_ _); rotate_left; focus (first | omega | (simp; done) | (simp; omega))) | ((with_reducible refine Below.trans ?_ (Below.mono (by with_reducible assumption) ?_)); rotate_left; focus (first | omega | (simp; done) | (simp; omega))))); done)); rintro e w1 ⟨rfl, hbel⟩; obtain ⟨hcc, hff⟩ := bcell hbel; have hsz := hbel.size; (try simp at hsz); have hF : (((w1.cell? ⟨w.heap.size, 0, none⟩ = some (.int .u64 (0)) ∧ w1.cell? ⟨w.heap.size, 1, none⟩ = some (.int .u64 (0)) ∧ w.heap.size < w1.heap.size)) ∧ ((w1.frozen? ⟨w.heap.size, 0, none⟩ = false ∧ w1.frozen? ⟨w.heap.size, 1, none⟩ = false)) ∧ Below w.heap.size w w1) := (by ((repeat' apply And.intro) <;> first | (simp [go_sem, *]; done) | omega | (repeat' (first | with_reducible exact Below.refl _ _ | with_reducible assumption | ((with_reducible refine Below.drew ?_)) | ((with_reducible refine below_drewN ?_ _)) | ((with_reducible refine Below.alloc ?_ ?_ _); rotate_left; focus (first | omega | (simp; done) | (simp; omega))) | ((with_reducible refine Below.setCell ?_ ?_ _); rotate_left; focus (first | omega | (simp; done) | (simp; omega))) | ((with_reducible refine Below.trans ?_ (Below.mono (by with_reducible assumption) ?_)); rotate_left; focus (first | omega | (simp; done) | (simp; omega))))))); go_split_ands; clear hcc hff hbel))
  refine bodyPost_ret (v := .agg #[.int .u64 p, .int .u64 q]) (by simp [results, Try.results17, go_sem, *]) rfl ⟨rfl, (by repeat' (first | with_reducible exact Below.refl _ _ | with_reducible assumption | ((with_reducible refine Below.drew ?_)) | ((with_reducible refine below_drewN ?_ _)) | ((with_reducible refine Below.alloc ?_ ?_ _); rotate_left; focus (first | omega | (simp; done) | (simp; omega))) | ((with_reducible refine Below.setCell ?_ ?_ _); rotate_left; focus (first | omega | (simp; done) | (simp; omega))) | ((with_reducible refine Below.trans ?_ (Below.mono (by with_reducible assumption) ?_)); rotate_left; focus (first | omega | (simp; done) | (simp; omega)))))⟩
theorem u64_info4 : (Try.prog.info? 23).map (fun i => (i.zero, i.size, i.bytes)) = some (some (.int .u64 0), 1, 8) := by kernel_rfl
theorem u64_parts : ∃ i, Try.prog.info? 23 = some i ∧ i.zero = some (.int .u64 0) ∧ i.size = 1 ∧ i.bytes = 8 := by
  obtain ⟨i, hi, h⟩ := Option.map_eq_some_iff.1 u64_info4
  simp only [Prod.mk.injEq] at h
  exact ⟨i, hi, h.1, h.2.1, h.2.2⟩
theorem QS.some' {z : World} {B m : Nat} {v : Value} {g : Nat → Value} (h : QS z B v m g) (hm : 0 < m) : ∃ b o cap, v = .slice (some ⟨b, o, none⟩) m cap ∧ m ≤ cap ∧ cap ≤ maxLen ∧ QC z B b o cap m g := by
  rcases h with ⟨_, rfl⟩ | h
  · exact absurd hm (by omega)
  · exact h
theorem QC.two {z : World} {B b o cap : Nat} {g : Nat → Value} (h : QC z B b o cap 2 g) : z.cell? ⟨b, o, none⟩ = some (g 0) ∧ z.cell? ⟨b, o + 1, none⟩ = some (g 1) ∧ b < z.heap.size := ⟨by have := h.2.2.2 0 (by omega); simpa using this, h.2.2.2 1 (by omega), h.2.1⟩
theorem only_src {B sb : Nat} {z z' : World} (h : sb < B) (hz : sb < z.heap.size) (ho : Only (fun k => B ≤ k) z z') (hs : (z.cell? ⟨sb, 0, none⟩ = some (.int .u64 3) ∧ z.cell? ⟨sb, 1, none⟩ = some (.int .u64 2) ∧ z.cell? ⟨sb, 2, none⟩ = some (.int .u64 1) ∧ z.cell? ⟨sb, 3, none⟩ = some (.int .u64 0) ∧ z.cell? ⟨sb, 4, none⟩ = some (.int .u64 4) ∧ z.cell? ⟨sb, 5, none⟩ = some (.int .u64 5) ∧ sb < z.heap.size)) : (z'.cell? ⟨sb, 0, none⟩ = some (.int .u64 3) ∧ z'.cell? ⟨sb, 1, none⟩ = some (.int .u64 2) ∧ z'.cell? ⟨sb, 2, none⟩ = some (.int .u64 1) ∧ z'.cell? ⟨sb, 3, none⟩ = some (.int .u64 0) ∧ z'.cell? ⟨sb, 4, none⟩ = some (.int .u64 4) ∧ z'.cell? ⟨sb, 5, none⟩ = some (.int .u64 5) ∧ sb < z'.heap.size) := by
  obtain ⟨h0, h1, h2, h3, h4, h5, h6⟩ := hs
  have hn : ¬ B ≤ sb := by omega
  exact ⟨(ho.cell hz hn).trans h0, (ho.cell hz hn).trans h1, (ho.cell hz hn).trans h2, (ho.cell hz hn).trans h3, (ho.cell hz hn).trans h4, (ho.cell hz hn).trans h5, Nat.lt_of_lt_of_le hz ho.size⟩
attribute [local irreducible] QS QC
set_option maxHeartbeats 2000000 in
theorem knees_c (sb : Nat) (w : World) (hs : (w.cell? ⟨sb, 0, none⟩ = some (.int .u64 3) ∧ w.cell? ⟨sb, 1, none⟩ = some (.int .u64 2) ∧ w.cell? ⟨sb, 2, none⟩ = some (.int .u64 1) ∧ w.cell? ⟨sb, 3, none⟩ = some (.int .u64 0) ∧ w.cell? ⟨sb, 4, none⟩ = some (.int .u64 4) ∧ w.cell? ⟨sb, 5, none⟩ = some (.int .u64 5) ∧ sb < w.heap.size)) :
    Calls Try.prog 18 #[.slice (some ⟨sb, 0, none⟩) 2 2] w fun e w' => (∃ b o c, e = .returned (.slice (some ⟨b, o, none⟩) 2 c) ∧ (w'.cell? ⟨b, o, none⟩ = some (.int .u64 2) ∧ w'.cell? ⟨b, o + 1, none⟩ = some (.int .u64 4) ∧ b < w'.heap.size)) ∧ Below w.heap.size w w' := by
  have i3 : In 3 := by unfold In; omega
  have i2 : In 2 := by unfold In; omega
  have i1 : In 1 := by unfold In; omega
  have i0 : In 0 := by unfold In; omega
  have i4 : In 4 := by unfold In; omega
  have i5 : In 5 := by unfold In; omega
  have K3 := Lib.hid (fun z => (show Calls Try.prog 42 #[.agg #[.int .u64 (3), .int .u64 (2), .int .u64 (1)]] z (fun ee w' => ee = .returned (.int .i64 3) ∧ Below z.heap.size z w') from kof_c 3 2 1 i3 i2 i1 z))
  have K4 := Lib.hid (fun z => (show Calls Try.prog 42 #[.agg #[.int .u64 (0), .int .u64 (4), .int .u64 (5)]] z (fun ee w' => ee = .returned (.int .i64 4) ∧ Below z.heap.size z w') from kof_c 0 4 5 i0 i4 i5 z))
  have KS := Lib.hid (fun b o c z h0 h1 hb => sor_c b o c z h0 h1 hb)
  have KM := Lib.hid (fun b o c z h0 h1 hb => cmp_c b o c z h0 h1 hb)
  obtain ⟨iu, hi0, hz0, hz1, hz2⟩ := u64_parts
  have HI := Lib.hid hi0
  have HZ0 := Lib.hid hz0
  have HZ1 := Lib.hid hz1
  have HZ2 := Lib.hid hz2
  clear i3 i2 i1 i0 i4 i5 hi0 hz0 hz1 hz2
  obtain ⟨s0, s1, s2, s3, s4, s5, s6⟩ := hs
  go_enter Try.func18, Try.ntmps18
  go_wp2
  refine wp_loop_rounds 4 ?_
  rw [rounds_succ]
  go_wp2_with (first
    | (go_at_call 42; ((with_reducible refine (K3.out _).mono ?_); rintro e w1 ⟨rfl, hbel⟩; obtain ⟨hcc, hff⟩ := bcell hbel; have hsz := hbel.size; (try simp at hsz); have hF : ((w1.cell? ⟨w.heap.size, 0, none⟩ = some (.int .u64 3) ∧ w1.cell? ⟨w.heap.size, 1, none⟩ = some (.int .u64 2) ∧ w1.cell? ⟨w.heap.size, 2, none⟩ = some (.int .u64 1) ∧ w.heap.size < w1.heap.size)) ∧ ((w1.cell? ⟨sb, 0, none⟩ = some (.int .u64 3) ∧ w1.cell? ⟨sb, 1, none⟩ = some (.int .u64 2) ∧ w1.cell? ⟨sb, 2, none⟩ = some (.int .u64 1) ∧ w1.cell? ⟨sb, 3, none⟩ = some (.int .u64 0) ∧ w1.cell? ⟨sb, 4, none⟩ = some (.int .u64 4) ∧ w1.cell? ⟨sb, 5, none⟩ = some (.int .u64 5) ∧ sb < w1.heap.size)) ∧ w.heap.size < w1.heap.size ∧ Below w.heap.size w w1 := (by ((repeat' apply And.intro) <;> first | (simp [go_sem, *]; done) | omega | (repeat' (first | with_reducible exact Below.refl _ _ | with_reducible assumption | ((with_reducible refine Below.drew ?_)) | ((with_reducible refine below_drewN ?_ _)) | ((with_reducible refine Below.alloc ?_ ?_ _); rotate_left; focus (first | omega | (simp; done) | (simp; omega))) | ((with_reducible refine Below.setCell ?_ ?_ _); rotate_left; focus (first | omega | (simp; done) | (simp; omega))) | ((with_reducible refine Below.trans ?_ (Below.mono (by with_reducible assumption) ?_)); rotate_left; focus (first | omega | (simp; done) | (simp; omega))))))); go_split_ands; clear hcc hff hbel))
    | (at_builtin; refine wpList_append_q rfl _ _ 35 rfl w.heap.size 23 iu (.int .u64 0) 8 Try.underlying35 HI.out HZ0.out HZ1.out HZ2.out rfl _ 0 _ rfl (QS.nil _ _ (fun _ => undef)) _ _ (.int .u64 2) rfl (by simp [go_sem]) rfl (by unfold maxLen; omega) (by omega) (by (try simp); omega) ?_; intro v1 w2 hq2 ho2))
  have hb2 : Below w.heap.size w w2 := ho2.below (B := w.heap.size) (by repeat' (first | with_reducible exact Below.refl _ _ | with_reducible assumption | ((with_reducible refine Below.drew ?_)) | ((with_reducible refine below_drewN ?_ _)) | ((with_reducible refine Below.alloc ?_ ?_ _); rotate_left; focus (first | omega | (simp; done) | (simp; omega))) | ((with_reducible refine Below.setCell ?_ ?_ _); rotate_left; focus (first | omega | (simp; done) | (simp; omega))) | ((with_reducible refine Below.trans ?_ (Below.mono (by with_reducible assumption) ?_)); rotate_left; focus (first | omega | (simp; done) | (simp; omega))))) (by (try simp); omega) (fun k hk => hk)
  obtain ⟨r0, r1, r2, r3, r4, r5, r6⟩ := only_src (B := w.heap.size) s6 (by (try simp); omega) ho2 ⟨by simp [go_sem, *], by simp [go_sem, *], by simp [go_sem, *], by simp [go_sem, *], by simp [go_sem, *], by simp [go_sem, *], by (try simp); omega⟩
  clear ho2
  have hb2s := hb2.size
  rw [rounds_succ]
  go_wp2_with (first
    | (go_at_call 42; ((with_reducible refine (K4.out _).mono ?_); rintro e w3 ⟨rfl, hbel⟩; have hq3 := (hq2.below (Below.alloc (Below.refl _ _) (Nat.le_refl _) _)).below hbel; obtain ⟨hcc, hff⟩ := bcell hbel; have hsz := hbel.size; (try simp at hsz); have hF : ((w3.cell? ⟨w2.heap.size, 0, none⟩ = some (.int .u64 0) ∧ w3.cell? ⟨w2.heap.size, 1, none⟩ = some (.int .u64 4) ∧ w3.cell? ⟨w2.heap.size, 2, none⟩ = some (.int .u64 5) ∧ w2.heap.size < w3.heap.size)) ∧ w.heap.size < w3.heap.size ∧ Below w.heap.size w w3 := (by ((repeat' apply And.intro) <;> first | (simp [go_sem, *]; done) | omega | (repeat' (first | with_reducible exact Below.refl _ _ | with_reducible assumption | ((with_reducible refine Below.drew ?_)) | ((with_reducible refine below_drewN ?_ _)) | ((with_reducible refine Below.alloc ?_ ?_ _); rotate_left; focus (first | omega | (simp; done) | (simp; omega))) | ((with_reducible refine Below.setCell ?_ ?_ _); rotate_left; focus (first | omega | (simp; done) | (simp; omega))) | ((with_reducible refine Below.trans ?_ (Below.mono (by with_reducible assumption) ?_)); rotate_left; focus (first | omega | (simp; done) | (simp; omega))))))); go_split_ands; clear hcc hff hbel))
    | (at_builtin; refine wpList_append_q rfl _ _ 35 rfl w.heap.size 23 iu (.int .u64 0) 8 Try.underlying35 HI.out HZ0.out HZ1.out HZ2.out rfl _ 1 _ rfl (hq3.below (Below.alloc (Below.refl _ _) (Nat.le_refl _) _)) _ _ (.int .u64 4) rfl (by simp [go_sem]) rfl (by unfold maxLen; omega) (by omega) (by (try simp); omega) ?_; intro v4 w4 hq4 ho4))
  have hb4 : Below w.heap.size w w4 := ho4.below (B := w.heap.size) (by repeat' (first | with_reducible exact Below.refl _ _ | with_reducible assumption | ((with_reducible refine Below.drew ?_)) | ((with_reducible refine below_drewN ?_ _)) | ((with_reducible refine Below.alloc ?_ ?_ _); rotate_left; focus (first | omega | (simp; done) | (simp; omega))) | ((with_reducible refine Below.setCell ?_ ?_ _); rotate_left; focus (first | omega | (simp; done) | (simp; omega))) | ((with_reducible refine Below.trans ?_ (Below.mono (by with_reducible assumption) ?_)); rotate_left; focus (first | omega | (simp; done) | (simp; omega))))) (by (try simp); omega) (fun k hk => hk)
  clear ho4 hq2 hq3
  obtain ⟨b, o, c, rfl, -, -, hQC⟩ := hq4.some' (by omega)
  obtain ⟨t0, t1, t2⟩ := hQC.two
  have t0' : w4.cell? ⟨b, o, none⟩ = some (.int .u64 2) := t0
  have t1' : w4.cell? ⟨b, o + 1, none⟩ = some (.int .u64 4) := t1
  have hb4s := hb4.size
  clear t0 t1 hq4 hQC
  rw [rounds_succ]
  go_wp2_with (first
    | (go_at_call 43; ((with_reducible refine (KS.out b o c _ (by assumption) (by assumption) (by assumption)).mono ?_); rintro e w5 ⟨rfl, hbel⟩; obtain ⟨hcc, hff⟩ := bcell hbel; have hsz := hbel.size; (try simp at hsz); have hF : ((w5.cell? ⟨b, o, none⟩ = some (.int .u64 2) ∧ w5.cell? ⟨b, o + 1, none⟩ = some (.int .u64 4) ∧ b < w5.heap.size)) ∧ w.heap.size ≤ w5.heap.size ∧ Below w.heap.size w w5 := (by ((repeat' apply And.intro) <;> first | (simp [go_sem, *]; done) | omega | (repeat' (first | with_reducible exact Below.refl _ _ | with_reducible assumption | ((with_reducible refine Below.drew ?_)) | ((with_reducible refine below_drewN ?_ _)) | ((with_reducible refine Below.alloc ?_ ?_ _); rotate_left; focus (first | omega | (simp; done) | (simp; omega))) | ((with_reducible refine Below.setCell ?_ ?_ _); rotate_left; focus (first | omega | (simp; done) | (simp; omega))) | ((with_reducible refine Below.trans ?_ (Below.mono (by with_reducible assumption) ?_)); rotate_left; focus (first | omega | (simp; done) | (simp; omega))))))); go_split_ands; clear hcc hff hbel))
    | (go_at_call 44; ((with_reducible refine (KM.out b o c _ (by assumption) (by assumption) (by assumption)).mono ?_); rintro e w6 ⟨rfl, hbel⟩; obtain ⟨hcc, hff⟩ := bcell hbel; have hsz := hbel.size; (try simp at hsz); have hF : ((w6.cell? ⟨b, o, none⟩ = some (.int .u64 2) ∧ w6.cell? ⟨b, o + 1, none⟩ = some (.int .u64 4) ∧ b < w6.heap.size)) ∧ Below w.heap.size w w6 := (by ((repeat' apply And.intro) <;> first | (simp [go_sem, *]; done) | omega | (repeat' (first | with_reducible exact Below.refl _ _ | with_reducible assumption | ((with_reducible refine Below.drew ?_)) | ((with_reducible refine below_drewN ?_ _)) | ((with_reducible refine Below.alloc ?_ ?_ _); rotate_left; focus (first | omega | (simp; done) | (simp; omega))) | ((with_reducible refine Below.setCell ?_ ?_ _); rotate_left; focus (first | omega | (simp; done) | (simp; omega))) | ((with_reducible refine Below.trans ?_ (Below.mono (by with_reducible assumption) ?_)); rotate_left; focus (first | omega | (simp; done) | (simp; omega))))))); go_split_ands; clear hcc hff hbel)))
  go_ret
  exact ⟨⟨b, o, c, rfl, by assumption, by assumption, by assumption⟩, by assumption⟩
end Go.Proofs.Ytpabidiggehmnaa
