/- SumStraight. -/
import Derived.Test.YtpabidiggehmnaaSu32
namespace Go.Proofs.Ytpabidiggehmnaa
set_option linter.unusedVariables false
set_option linter.unusedSimpArgs false
set_option maxRecDepth 100000
open Go.RowKit Fg Reg Go.Sort
attribute [local irreducible] Reg.wE Holds QS

/-- How much a curve rises in a tick. -/
def rse (t : Int) (c : Cv) : Int := if kind c.m1 c.d c.m2 = 0 then 0 else if t < c.d then c.m1 else c.m2
theorem csv_next {c : Cv} (h : c.ok) {t : Int} (ht : 0 ≤ t) : csv (t + 1) c = csv t c + rse t c := by
  unfold csv rse
  by_cases hk : kind c.m1 c.d c.m2 = 0
  · rw [srv_no hk, srv_no hk, if_pos hk]; rfl
  · rw [srv_ok hk, srv_ok hk, if_neg hk]
    have h2 := h.h2.1
    generalize c.m1 = m1
    generalize c.m2 = m2
    generalize c.d = d at *
    unfold sv
    by_cases h1 : t < d
    · rw [if_pos (by omega), if_pos (by omega), if_pos h1, Int.mul_add]; simp
    · rw [if_neg (by omega), if_neg h1]
      by_cases h3 : t = d
      · subst h3
        rw [if_pos (by omega), show t + 1 - t = 1 by omega]; simp
      · rw [if_neg (by omega), show t + 1 - d = (t - d) + 1 by omega, Int.mul_add]; simp; omega
theorem tots_next (l : List Cv) (hok : ∀ c ∈ l, c.ok) {t : Int} (ht : 0 ≤ t) : tots (csv (t + 1)) l = tots (csv t) l + tots (rse t) l := by
  induction l with
  | nil => simp [tots]
  | cons c l ih =>
    have h1 := csv_next (hok c (by simp)) ht
    have h2 := ih (fun x hx => hok x (by simp [hx]))
    simp only [tots, h1, h2]; omega
theorem rse_bd {c : Cv} (h : c.ok) (t : Int) : 0 ≤ rse t c ∧ rse t c ≤ 4294967295 := by
  unfold rse
  split
  · omega
  · rename_i hk
    have h' := okc h.h1 h.h2 h.h3 hk
    have a1 := h.h1.1
    have a2 := h.h3.1
    have a3 := h'.b1
    have a4 := h'.b3
    split <;> omega
theorem kind_d {c : Cv} (h : ¬ kind c.m1 c.d c.m2 = 0) (hd : 0 < c.d) (h0 : 0 ≤ c.m1) (h1 : 0 ≤ c.m2) : bend c = true := by
  unfold bend
  unfold kind at h ⊢
  simp only [decide_eq_true_eq]
  split at h
  · exact absurd rfl h
  · rename_i g1
    rw [if_neg g1, if_neg (by omega), if_neg (by omega)]
    split
    · omega
    · rename_i g2
      rw [if_neg (by omega), if_neg (by omega), if_neg g2] at h
      split at h
      · rename_i g3; rw [if_pos g3]; omega
      · exact absurd rfl h
theorem tots_congr (f g : Cv → Int) (l : List Cv) (h : ∀ c ∈ l, f c = g c) : tots f l = tots g l := by
  induction l with
  | nil => rfl
  | cons c l ih => simp only [tots, h c (by simp), ih (fun x hx => h x (by simp [hx]))]
/-- No knee between: the same rise. -/
theorem rise_same (l : List Cv) (hok : ∀ c ∈ l, c.ok) {a b : Int} (ha : 0 ≤ a) (hab : a ≤ b) (h : ∀ k ∈ kns l, ¬ (a < k ∧ k ≤ b)) : tots (rse b) l = tots (rse a) l := by
  refine tots_congr _ _ l fun c hc => ?_
  have ho := hok c hc
  unfold rse
  by_cases hk : kind c.m1 c.d c.m2 = 0
  · rw [if_pos hk, if_pos hk]
  · rw [if_neg hk, if_neg hk]
    by_cases hd : 0 < c.d
    · have hm : c.d ∈ kns l := (mem_kns l c.d).2 ⟨c, hc, kind_d hk hd ho.h1.1 ho.h3.1, rfl⟩
      have := h c.d hm
      by_cases h1 : a < c.d
      · rw [if_pos h1, if_pos (by omega)]
      · rw [if_neg h1, if_neg (by omega)]
    · rw [if_neg (by omega), if_neg (by omega)]
theorem rise_last (l : List Cv) (hok : ∀ c ∈ l, c.ok) {a : Int} (ha : 0 ≤ a) (h : ∀ k ∈ kns l, k ≤ a) : tots (rse a) l = tots csl l := by
  refine tots_congr _ _ l fun c hc => ?_
  have ho := hok c hc
  unfold rse csl
  by_cases hk : kind c.m1 c.d c.m2 = 0
  · rw [if_pos hk, if_pos hk]
  · rw [if_neg hk, if_neg hk]
    by_cases hd : 0 < c.d
    · have hm : c.d ∈ kns l := (mem_kns l c.d).2 ⟨c, hc, kind_d hk hd ho.h1.1 ho.h3.1, rfl⟩
      have := h c.d hm
      rw [if_neg (by omega)]
    · rw [if_neg (by omega)]
theorem eqNumS (p q : Int) (w : World) : (Op.equalIn 10000 29 (.agg #[.int .u64 p, .int .u64 q]) (.agg #[.int .u64 p, .int .u64 q])).run Try.prog w = .ok true w := by
  have u3 := Try.underlying23
  have hS : Try.prog.underlying 29 = some (.struct (Try.prog.fieldsOf 29)) := by kernel_rfl
  have hp : Try.prog.stoodInHeld 29 = false := by kernel_rfl
  rw [show (10000 : Nat) = 9999 + 1 from rfl, run_equalIn_agg w 9999 29 _ _ hS hp]
  simp only [Program.fieldsOf, Try.underlying29]
  go_simp
set_option maxHeartbeats 2000000 in
theorem rise_c (l : List Cv) (a : Option Addr) (c : Nat) (hn : l.length ≤ 60) (hok : ∀ k (h : k < l.length), l[k].ok) (t : Int) (ht0 : 0 ≤ t) (ht : t ≤ 4611686018427387904) (w : World) (hR : RwV Cv.cells 3 w a l) :
    Calls Try.prog 20 #[.slice a l.length c, .int .u64 t] w fun ee w' => ee = .returned (.agg #[.int .u64 (hi (tots (rse t) l)), .int .u64 (lo (tots (rse t) l))]) ∧ Below w.heap.size w w' := by
  have hI : In t := by unfold In; omega
  have hI1 : In (t + 1) := by unfold In; omega
  have hmem : ∀ cv ∈ l, cv.ok := fun cv hcv => by
    obtain ⟨j, hj, rfl⟩ := List.getElem_of_mem hcv
    exact hok j hj
  have hV1 := tots_bd (csv (t + 1)) 79228162532711081662980096000 l (fun cv hcv => csv_bd (hmem cv hcv) hI1)
  have hV0 := tots_bd (csv t) 79228162532711081662980096000 l (fun cv hcv => csv_bd (hmem cv hcv) hI)
  have hRb := tots_bd (rse t) 4294967295 l (fun cv hcv => rse_bd (hmem cv hcv) t)
  have hV2 : (l.length : Int) * 79228162532711081662980096000 ≤ 60 * 79228162532711081662980096000 := Int.mul_le_mul_of_nonneg_right (by omega) (by omega)
  have hnx := tots_next l hmem ht0
  have k1 := fun (z : World) (hz : Below w.heap.size w z) => service_c (t + 1) hI1 l a c (by omega) hok z (hR.below hz)
  have k2 := fun (z : World) (hz : Below w.heap.size w z) => service_c t hI l a c (by omega) hok z (hR.below hz)
  generalize tots (csv (t + 1)) l = V1 at *
  generalize tots (csv t) l = V0 at *
  generalize tots (rse t) l = D at *
  have k3 := fun (z : World) => sub_c (hi V1) (lo V1) (hi V0) (lo V0) (hi_in _) (lo_in _) (hi_in _) (lo_in _) z
  have hw1 : Wd V1 := by unfold Wd; omega
  have hw0 : Wd V0 := by unfold Wd; omega
  rw [val_wd hw1, val_wd hw0, show V1 - V0 = D by omega] at k3
  clear hmem hV1 hV0 hRb hV2 hnx hw1 hw0 hok hR hI hI1
  generalize hi V1 = p1 at *
  generalize lo V1 = q1 at *
  generalize hi V0 = p0 at *
  generalize lo V0 = q0 at *
  generalize hi D = p at *
  generalize lo D = q at *
  generalize decide (V1 < V0) = fl at *
  have W1 : IntKind.u64.wrap (t + 1) = t + 1 := by rw [IntKind.wrap_u64]; omega
  have K1 := Lib.hid k1
  have K2 := Lib.hid k2
  have K3 := Lib.hid k3
  clear k1 k2 k3
  go_enter Try.func20, Try.ntmps20
  go_wp2_with (first
    | (go_at_call 13; ((with_reducible refine (K1.out _ (by repeat' (first | with_reducible exact Below.refl _ _ | with_reducible assumption | ((with_reducible refine Below.drew ?_)) | ((with_reducible refine below_drewN ?_ _)) | ((with_reducible refine Below.alloc ?_ ?_ _); rotate_left; focus (first | omega | (simp; done) | (simp; omega))) | ((with_reducible refine Below.setCell ?_ ?_ _); rotate_left; focus (first | omega | (simp; done) | (simp; omega))) | ((with_reducible refine Below.trans ?_ (Below.mono (by with_reducible assumption) ?_)); rotate_left; focus (first | omega | (simp; done) | (simp; omega)))))).mono ?_); rintro e w1 ⟨rfl, hbel⟩; obtain ⟨hcc, hff⟩ := bcell hbel; have hsz := hbel.size; (try simp at hsz); have hF : (w1.cell? ⟨w.heap.size, 0, none⟩ = some (.int .u64 (0)) ∧ w1.cell? ⟨w.heap.size, 1, none⟩ = some (.int .u64 (0)) ∧ w.heap.size < w1.heap.size) ∧ (w1.frozen? ⟨w.heap.size, 0, none⟩ = false ∧ w1.frozen? ⟨w.heap.size, 1, none⟩ = false) ∧ Below w.heap.size w w1 := (by ((repeat' apply And.intro) <;> first | (simp [go_sem, *]; done) | omega | (repeat' (first | with_reducible exact Below.refl _ _ | with_reducible assumption | ((with_reducible refine Below.drew ?_)) | ((with_reducible refine below_drewN ?_ _)) | ((with_reducible refine Below.alloc ?_ ?_ _); rotate_left; focus (first | omega | (simp; done) | (simp; omega))) | ((with_reducible refine Below.setCell ?_ ?_ _); rotate_left; focus (first | omega | (simp; done) | (simp; omega))) | ((with_reducible refine Below.trans ?_ (Below.mono (by with_reducible assumption) ?_)); rotate_left; focus (first | omega | (simp; done) | (simp; omega))))))); go_split_ands; clear hcc hff hbel))
    | (go_at_call 13; ((with_reducible refine (K2.out _ (by repeat' (first | with_reducible exact Below.refl _ _ | with_reducible assumption | ((with_reducible refine Below.drew ?_)) | ((with_reducible refine below_drewN ?_ _)) | ((with_reducible refine Below.alloc ?_ ?_ _); rotate_left; focus (first | omega | (simp; done) | (simp; omega))) | ((with_reducible refine Below.setCell ?_ ?_ _); rotate_left; focus (first | omega | (simp; done) | (simp; omega))) | ((with_reducible refine Below.trans ?_ (Below.mono (by with_reducible assumption) ?_)); rotate_left; focus (first | omega | (simp; done) | (simp; omega)))))).mono ?_); rintro e w2 ⟨rfl, hbel⟩; obtain ⟨hcc, hff⟩ := bcell hbel; have hsz := hbel.size; (try simp at hsz); have hF : (w2.cell? ⟨w.heap.size, 0, none⟩ = some (.int .u64 (0)) ∧ w2.cell? ⟨w.heap.size, 1, none⟩ = some (.int .u64 (0)) ∧ w.heap.size < w2.heap.size) ∧ (w2.frozen? ⟨w.heap.size, 0, none⟩ = false ∧ w2.frozen? ⟨w.heap.size, 1, none⟩ = false) ∧ Below w.heap.size w w2 := (by ((repeat' apply And.intro) <;> first | (simp [go_sem, *]; done) | omega | (repeat' (first | with_reducible exact Below.refl _ _ | with_reducible assumption | ((with_reducible refine Below.drew ?_)) | ((with_reducible refine below_drewN ?_ _)) | ((with_reducible refine Below.alloc ?_ ?_ _); rotate_left; focus (first | omega | (simp; done) | (simp; omega))) | ((with_reducible refine Below.setCell ?_ ?_ _); rotate_left; focus (first | omega | (simp; done) | (simp; omega))) | ((with_reducible refine Below.trans ?_ (Below.mono (by with_reducible assumption) ?_)); rotate_left; focus (first | omega | (simp; done) | (simp; omega))))))); go_split_ands; clear hcc hff hbel))
    | (go_at_call 45; ((with_reducible refine (K3.out _).mono ?_); rintro e w3 ⟨rfl, hbel⟩; obtain ⟨hcc, hff⟩ := bcell hbel; have hsz := hbel.size; (try simp at hsz); have hF : (w3.cell? ⟨w.heap.size, 0, none⟩ = some (.int .u64 (0)) ∧ w3.cell? ⟨w.heap.size, 1, none⟩ = some (.int .u64 (0)) ∧ w.heap.size < w3.heap.size) ∧ (w3.frozen? ⟨w.heap.size, 0, none⟩ = false ∧ w3.frozen? ⟨w.heap.size, 1, none⟩ = false) ∧ Below w.heap.size w w3 := (by ((repeat' apply And.intro) <;> first | (simp [go_sem, *]; done) | omega | (repeat' (first | with_reducible exact Below.refl _ _ | with_reducible assumption | ((with_reducible refine Below.drew ?_)) | ((with_reducible refine below_drewN ?_ _)) | ((with_reducible refine Below.alloc ?_ ?_ _); rotate_left; focus (first | omega | (simp; done) | (simp; omega))) | ((with_reducible refine Below.setCell ?_ ?_ _); rotate_left; focus (first | omega | (simp; done) | (simp; omega))) | ((with_reducible refine Below.trans ?_ (Below.mono (by with_reducible assumption) ?_)); rotate_left; focus (first | omega | (simp; done) | (simp; omega))))))); go_split_ands; clear hcc hff hbel)))
  refine bodyPost_ret (v := .agg #[.int .u64 p, .int .u64 q]) (by simp [results, Try.results20, go_sem, *]) rfl ⟨rfl, (by repeat' (first | with_reducible exact Below.refl _ _ | with_reducible assumption | ((with_reducible refine Below.drew ?_)) | ((with_reducible refine below_drewN ?_ _)) | ((with_reducible refine Below.alloc ?_ ?_ _); rotate_left; focus (first | omega | (simp; done) | (simp; omega))) | ((with_reducible refine Below.setCell ?_ ?_ _); rotate_left; focus (first | omega | (simp; done) | (simp; omega))) | ((with_reducible refine Below.trans ?_ (Below.mono (by with_reducible assumption) ?_)); rotate_left; focus (first | omega | (simp; done) | (simp; omega)))))⟩
end Go.Proofs.Ytpabidiggehmnaa
