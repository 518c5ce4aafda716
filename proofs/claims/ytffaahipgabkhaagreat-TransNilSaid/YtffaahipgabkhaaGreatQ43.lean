/- Joined texts. -/
import Derived.Test.YtffaahipgabkhaaGreatQ1
import Derived.Test.YtffaahipgabkhaaGreatQ2
import Derived.Test.YtffaahipgabkhaaGreatQ3
import Derived.Test.YtffaahipgabkhaaGreatQ6
import Derived.Test.YtffaahipgabkhaaGreatQ41
import Derived.Test.YtffaahipgabkhaaGreatQ42
section
namespace Go.Proofs.YtffaahipgabkhaaGreat
set_option linter.unusedVariables false
set_option linter.unusedSimpArgs false
set_option maxRecDepth 100000
open Go.RowKit Fg Reg
attribute [local irreducible] Reg.wE
set_option maxHeartbeats 1000000 in
theorem service_c (t : Int) (ht : In t) (l : List Cv) (a : Option Addr) (c : Nat) (hn : l.length ≤ 100) (hok : ∀ k (h : k < l.length), l[k].ok) (w : World) (hR : RwV Cv.cells 3 w a l) :
    Calls Tryz.prog 87 #[.slice a l.length c, .int .u64 t] w fun ee w' => ee = .returned (.agg #[.int .u64 (hi (tots (csv t) l)), .int .u64 (lo (tots (csv t) l))]) ∧ Below w.heap.size w w' := by
  have k1 := fun (z : World) (hz : Below w.heap.size w z) (hx : z.cell? ⟨w.heap.size, 0, none⟩ = some (.int .u64 t)) (hxl : w.heap.size < z.heap.size) => totsv_c t ht w.heap.size l a c hn hok z (hR.below hz) hx hxl
  generalize hi (tots (csv t) l) = p at *
  generalize lo (tots (csv t) l) = q at *
  have K1 := Lib.hid k1
  clear k1 hR hok
  go_enter Tryz.func87, Tryz.ntmps87
  go_wp2_with (go_at_call 113; ((with_reducible refine (K1.out _ ?_ ?_ ?_).mono ?_); (focus ((repeat' (first | with_reducible exact Below.refl _ _ | with_reducible assumption | ((with_reducible refine Below.drew ?_)) | ((with_reducible refine below_drewN ?_ _)) | ((with_reducible refine Below.alloc ?_ ?_ _); rotate_left; focus (first | omega | (simp; done) | (simp; omega))) | ((with_reducible refine Below.setCell ?_ ?_ _); rotate_left; focus (first | omega | (simp; done) | (simp; omega))) | ((with_reducible refine Below.trans ?_ (Below.mono (by with_reducible assumption) ?_)); rotate_left; focus (first | omega | (simp; done) | (simp; omega))))); done)); (focus (simp [go_sem])); (focus (first | omega | (simp; done) | (simp; omega))); rintro e w1 ⟨rfl, hbel⟩; obtain ⟨hcc, hff⟩ := bcell hbel; have hsz := hbel.size; (try simp at hsz); have hF : (((w1.cell? ⟨w.heap.size + 1, 0, none⟩ = some (.int .u64 (0)) ∧ w1.cell? ⟨w.heap.size + 1, 1, none⟩ = some (.int .u64 (0)) ∧ w.heap.size + 1 < w1.heap.size)) ∧ ((w1.frozen? ⟨w.heap.size + 1, 0, none⟩ = false ∧ w1.frozen? ⟨w.heap.size + 1, 1, none⟩ = false)) ∧ Below w.heap.size w w1) := (by ((repeat' apply And.intro) <;> first | (simp [go_sem, *]; done) | omega | (repeat' (first | with_reducible exact Below.refl _ _ | with_reducible assumption | ((with_reducible refine Below.drew ?_)) | ((with_reducible refine below_drewN ?_ _)) | ((with_reducible refine Below.alloc ?_ ?_ _); rotate_left; focus (first | omega | (simp; done) | (simp; omega))) | ((with_reducible refine Below.setCell ?_ ?_ _); rotate_left; focus (first | omega | (simp; done) | (simp; omega))) | ((with_reducible refine Below.trans ?_ (Below.mono (by with_reducible assumption) ?_)); rotate_left; focus (first | omega | (simp; done) | (simp; omega))))))); go_split_ands; clear hcc hff hbel))
  refine bodyPost_ret (v := .agg #[.int .u64 p, .int .u64 q]) (by simp [results, Tryz.results87, go_sem, *]) rfl ⟨rfl, (by repeat' (first | with_reducible exact Below.refl _ _ | with_reducible assumption | ((with_reducible refine Below.drew ?_)) | ((with_reducible refine below_drewN ?_ _)) | ((with_reducible refine Below.alloc ?_ ?_ _); rotate_left; focus (first | omega | (simp; done) | (simp; omega))) | ((with_reducible refine Below.setCell ?_ ?_ _); rotate_left; focus (first | omega | (simp; done) | (simp; omega))) | ((with_reducible refine Below.trans ?_ (Below.mono (by with_reducible assumption) ?_)); rotate_left; focus (first | omega | (simp; done) | (simp; omega)))))⟩
set_option maxHeartbeats 1000000 in
theorem slope_c (l : List Cv) (a : Option Addr) (c : Nat) (hn : l.length ≤ 100) (hok : ∀ k (h : k < l.length), l[k].ok) (w : World) (hR : RwV Cv.cells 3 w a l) :
    Calls Tryz.prog 90 #[.slice a l.length c] w fun ee w' => ee = .returned (.agg #[.int .u64 (hi (tots csl l)), .int .u64 (lo (tots csl l))]) ∧ Below w.heap.size w w' := by
  have k1 := fun (z : World) (hz : Below w.heap.size w z) => totsl_c l a c hn hok z (hR.below hz)
  generalize hi (tots csl l) = p at *
  generalize lo (tots csl l) = q at *
  have K1 := Lib.hid k1
  clear k1 hR hok
  go_enter Tryz.func90, Tryz.ntmps90
  go_wp2_with (go_at_call 113; ((with_reducible refine (K1.out _ ?_).mono ?_); (focus ((repeat' (first | with_reducible exact Below.refl _ _ | with_reducible assumption | ((with_reducible refine Below.drew ?_)) | ((with_reducible refine below_drewN ?_ _)) | ((with_reducible refine Below.alloc ?_ ?_ _); rotate_left; focus (first | omega | (simp; done) | (simp; omega))) | ((with_reducible refine Below.setCell ?_ ?_ _); rotate_left; focus (first | omega | (simp; done) | (simp; omega))) | ((with_reducible refine Below.trans ?_ (Below.mono (by with_reducible assumption) ?_)); rotate_left; focus (first | omega | (simp; done) | (simp; omega))))); done)); rintro e w1 ⟨rfl, hbel⟩; obtain ⟨hcc, hff⟩ := bcell hbel; have hsz := hbel.size; (try simp at hsz); have hF : (((w1.cell? ⟨w.heap.size, 0, none⟩ = some (.int .u64 (0)) ∧ w1.cell? ⟨w.heap.size, 1, none⟩ = some (.int .u64 (0)) ∧ w.heap.size < w1.heap.size)) ∧ ((w1.frozen? ⟨w.heap.size, 0, none⟩ = false ∧ w1.frozen? ⟨w.heap.size, 1, none⟩ = false)) ∧ Below w.heap.size w w1) := (by ((repeat' apply And.intro) <;> first | (simp [go_sem, *]; done) | omega | (repeat' (first | with_reducible exact Below.refl _ _ | with_reducible assumption | ((with_reducible refine Below.drew ?_)) | ((with_reducible refine below_drewN ?_ _)) | ((with_reducible refine Below.alloc ?_ ?_ _); rotate_left; focus (first | omega | (simp; done) | (simp; omega))) | ((with_reducible refine Below.setCell ?_ ?_ _); rotate_left; focus (first | omega | (simp; done) | (simp; omega))) | ((with_reducible refine Below.trans ?_ (Below.mono (by with_reducible assumption) ?_)); rotate_left; focus (first | omega | (simp; done) | (simp; omega))))))); go_split_ands; clear hcc hff hbel))
  refine bodyPost_ret (v := .agg #[.int .u64 p, .int .u64 q]) (by simp [results, Tryz.results90, go_sem, *]) rfl ⟨rfl, (by repeat' (first | with_reducible exact Below.refl _ _ | with_reducible assumption | ((with_reducible refine Below.drew ?_)) | ((with_reducible refine below_drewN ?_ _)) | ((with_reducible refine Below.alloc ?_ ?_ _); rotate_left; focus (first | omega | (simp; done) | (simp; omega))) | ((with_reducible refine Below.setCell ?_ ?_ _); rotate_left; focus (first | omega | (simp; done) | (simp; omega))) | ((with_reducible refine Below.trans ?_ (Below.mono (by with_reducible assumption) ?_)); rotate_left; focus (first | omega | (simp; done) | (simp; omega)))))⟩
theorem u64_info4 : (Tryz.prog.info? 44).map (fun i => (i.zero, i.size, i.bytes)) = some (some (.int .u64 0), 1, 8) := by kernel_rfl
theorem u64_parts : ∃ i, Tryz.prog.info? 44 = some i ∧ i.zero = some (.int .u64 0) ∧ i.size = 1 ∧ i.bytes = 8 := by
  obtain ⟨i, hi, h⟩ := Option.map_eq_some_iff.1 u64_info4
  simp only [Prod.mk.injEq] at h
  exact ⟨i, hi, h.1, h.2.1, h.2.2⟩
theorem QC.two {z : World} {B b o cap : Nat} {g : Nat → Value} (h : QC z B b o cap 2 g) : z.cell? ⟨b, o, none⟩ = some (g 0) ∧ z.cell? ⟨b, o + 1, none⟩ = some (g 1) ∧ b < z.heap.size := ⟨by have := h.2.2.2 0 (by omega); simpa using this, h.2.2.2 1 (by omega), h.2.1⟩
attribute [local irreducible] QS QC
end Go.Proofs.YtffaahipgabkhaaGreat
end
section
namespace Go.Proofs.YtffaahipgabkhaaGreat
set_option linter.unusedVariables false
set_option linter.unusedSimpArgs false
set_option maxRecDepth 100000
open Go.RowKit Fg Reg
attribute [local irreducible] Reg.wE
instance : Inhabited Cv := ⟨⟨0, 0, 0⟩⟩
end Go.Proofs.YtffaahipgabkhaaGreat
end
section
namespace Go.Proofs.YtffaahipgabkhaaGreat
set_option linter.unusedVariables false
set_option linter.unusedSimpArgs false
set_option maxRecDepth 100000
open Go.RowKit Fg Reg Go.Sort
attribute [local irreducible] Reg.wE Holds QS
def QV (z : World) (B : Nat) (v : Value) (L : List Int) : Prop := QS z B v L.length (fun j => .int .u64 (L.getD j 0))
def KV (z : World) (p : Option Addr) (L : List Int) : Prop := L = [] ∨ ∃ b o, p = some ⟨b, o, none⟩ ∧ b < z.heap.size ∧ ∀ j, j < L.length → z.cell? ⟨b, o + j, none⟩ = some (.int .u64 (L.getD j 0))
theorem KV.below {z z' : World} {p : Option Addr} {L : List Int} (h : KV z p L) (hb : Below z.heap.size z z') : KV z' p L := by
  rcases h with h | ⟨b, o, e, h1, h2⟩
  · exact .inl h
  · exact .inr ⟨b, o, e, Nat.lt_of_lt_of_le h1 hb.size, fun j hj => (hb.cell (p := ⟨b, o + j, none⟩) h1).trans (h2 j hj)⟩
theorem QV.nil (z : World) (B : Nat) : QV z B (.slice none 0 0) [] := QS.nil _ _ _
theorem QV.below {z z' : World} {B : Nat} {v : Value} {L : List Int} (h : QV z B v L) (hb : Below z.heap.size z z') : QV z' B v L := QS.below h hb
theorem QV.snoc {z : World} {B : Nat} {v : Value} {L : List Int} {x : Int} (h : QS z B v (L.length + 1) (fun j => if j = L.length then .int .u64 x else .int .u64 (L.getD j 0))) : QV z B v (L ++ [x]) := by
  unfold QV
  rw [List.length_append, List.length_singleton]
  refine h.congr fun j hj => ?_
  by_cases e : j = L.length
  · subst e; simp [List.getD]
  · have : j < L.length := by omega
    rw [if_neg e]; simp [List.getD, this, List.getElem?_append]
section
attribute [local semireducible] QS Holds
theorem QV.parts {z : World} {B : Nat} {v : Value} {L : List Int} (h : QV z B v L) :
    (v = .slice none 0 0 ∧ L = []) ∨ ∃ blk off cap, v = .slice (some ⟨blk, off, none⟩) L.length cap ∧ L.length ≤ cap ∧ B ≤ blk ∧ blk < z.heap.size ∧ Holds (Value.int .u64) (z) blk off (L.toArray) := by
  rcases h with ⟨h1, h2⟩ | ⟨b, o, cap, h1, h2, h3, h4, h5, h6, h7⟩
  · exact .inl ⟨h1, List.length_eq_zero_iff.1 h2⟩
  · refine .inr ⟨b, o, cap, h1, h2, h4, h5, fun j hj => ?_⟩
    have hj' : j < L.length := by simpa using hj
    refine ⟨?_, (h6 j (by omega)).2⟩
    rw [h7 j hj']
    simp [List.getD, hj']
theorem KV.of_hu {z : World} {blk off : Nat} {L : List Int} (h : Holds (Value.int .u64) (z) blk off (L.toArray)) (hl : blk < z.heap.size) : KV z (some ⟨blk, off, none⟩) L := .inr ⟨blk, off, rfl, hl, fun j hj => by
  rw [(h j (by simpa using hj)).1]
  simp [List.getD, hj]⟩
end
theorem bend_no {m1 d m2 : Int} (h : bend ⟨m1, d, m2⟩ = false) : (kind m1 d m2 == 3) = false ∧ (kind m1 d m2 == 4) = false := by
  unfold bend at h
  simp at h
  constructor <;> simp <;> omega
theorem bend_yes {m1 d m2 : Int} (h : bend ⟨m1, d, m2⟩ = true) : kind m1 d m2 = 3 ∨ kind m1 d m2 = 4 := by
  unfold bend at h
  simp at h
  have := (kind_rng m1 d m2).2
  omega
set_option maxHeartbeats 4000000 in
theorem kneesA_c (l : List Cv) (a : Option Addr) (c : Nat) (hn : l.length ≤ 100) (hok : ∀ k (h : k < l.length), l[k].ok) (w : World) (hR : RwV Cv.cells 3 w a l) :
    Calls Tryz.prog 83 #[.slice a l.length c] w fun e w' => (∃ p cp, e = .returned (.slice p (kns l).length cp) ∧ KV w' p (kns l)) ∧ Below w.heap.size w w' := by
  have HR := Lib.hid hR
  have HO := Lib.hid hok
  obtain ⟨iu, hi0, hz0, hz1, hz2⟩ := u64_parts
  have HI := Lib.hid hi0
  have HZ0 := Lib.hid hz0
  have HZ1 := Lib.hid hz1
  have HZ2 := Lib.hid hz2
  clear hR hok hi0 hz0 hz1 hz2
  go_enter Tryz.func83, Tryz.ntmps83
  go_wp2
  go_loopw [3, 9] (fun sv ii wr => ∃ k : Nat, k ≤ l.length ∧ ii = .int .i64 k ∧ QV wr w.heap.size sv (rawk (l.take k)) ∧ Below w.heap.size w wr) (fun _ ii _ => l.length - (intOf ii).toNat)
  case atStart => exact ⟨0, Nat.zero_le _, rfl, QV.nil _ _, by ((repeat' apply And.intro) <;> first | (simp [go_sem, *]; done) | omega | (repeat' (first | with_reducible exact Below.refl _ _ | with_reducible assumption | ((with_reducible refine Below.drew ?_)) | ((with_reducible refine below_drewN ?_ _)) | ((with_reducible refine Below.alloc ?_ ?_ _); rotate_left; focus (first | omega | (simp; done) | (simp; omega))) | ((with_reducible refine Below.setCell ?_ ?_ _); rotate_left; focus (first | omega | (simp; done) | (simp; omega))) | ((with_reducible refine Below.trans ?_ (Below.mono (by with_reducible assumption) ?_)); rotate_left; focus (first | omega | (simp; done) | (simp; omega))))))⟩
  case round =>
    obtain ⟨k, hk, rfl, hq, hB⟩ := hrel
    by_cases hlt : k < l.length
    · obtain ⟨b, o, rfl, hbl, hrr⟩ := (HR.out.below hB) k hlt
      have hc := HO.out k hlt
      have hsucc := rawk_succ l k hlt
      have hrl := rawk_len (l.take k)
      have hln : (rawk (l.take k)).length ≤ 100 := by rw [List.length_take] at hrl; omega
      have HS := Lib.hid hsucc
      clear hsucc hrl
      generalize l[k] = cv at *
      generalize rawk (l.take k) = L at *
      obtain ⟨m1, d, m2⟩ := cv
      have e0 : wr.cell? ⟨b, o + k * 3, none⟩ = some (.int .u64 m1) := hrr 0 _ rfl
      have e1 : wr.cell? ⟨b, o + k * 3 + 1, none⟩ = some (.int .u64 d) := hrr 1 _ rfl
      have e2 : wr.cell? ⟨b, o + k * 3 + 2, none⟩ = some (.int .u64 m2) := hrr 2 _ rfl
      clear hrr
      have hBs := hB.size
      have kc := kof_c m1 d m2 hc.h1 hc.h2 hc.h3
      clear hc
      cases hb : bend ⟨m1, d, m2⟩ with
      | false =>
        have HSX := HS.out
        rw [hb] at HSX
        obtain ⟨n3, n4⟩ := bend_no hb
        generalize kind m1 d m2 = kd at *
        have KC := Lib.hid kc
        have HS2 := Lib.hid (show rawk (l.take (k + 1)) = L from HSX)
        clear kc HSX HS hb
        go_wp2_with (go_at_call 108; (with_reducible refine (KC.out _).mono ?_); rintro e w1 ⟨rfl, hbel⟩; (have hq1 := (hq.below (Below.alloc (Below.refl _ _) (Nat.le_refl _) _)).below hbel); (have hB1 : Below w.heap.size w w1 := (Below.alloc hB (by omega) _).trans (Below.mono hbel (by simp; omega))); clear hbel)
        go_roundw
        case rel =>
          exact ⟨k + 1, by omega, by go_num, by rw [HS2.out]; exact hq1, hB1⟩
        case measure => simp [intOf]; omega
      | true =>
        have HSX := HS.out
        rw [hb] at HSX
        have HS2 := Lib.hid (show rawk (l.take (k + 1)) = L ++ [d] from HSX)
        rcases bend_yes hb with h34 | h34
        all_goals
          rw [h34] at kc
          have KC := Lib.hid kc
          clear kc HSX HS hb h34
          go_wp2_with (first
            | (go_at_call 108; ((with_reducible refine (KC.out _).mono ?_); rintro e w1 ⟨rfl, hbel⟩; (have hq1 := (hq.below (Below.alloc (Below.refl _ _) (Nat.le_refl _) _)).below hbel); obtain ⟨hcc, hff⟩ := bcell hbel; have hsz := hbel.size; (try simp at hsz); have hF : (w1.cell? ⟨wr.heap.size, 1, none⟩ = some (.int .u64 d)) ∧ wr.heap.size < w1.heap.size ∧ Below w.heap.size w w1 := (by ((repeat' apply And.intro) <;> first | (simp [go_sem, *]; done) | omega | (repeat' (first | with_reducible exact Below.refl _ _ | with_reducible assumption | ((with_reducible refine Below.drew ?_)) | ((with_reducible refine below_drewN ?_ _)) | ((with_reducible refine Below.alloc ?_ ?_ _); rotate_left; focus (first | omega | (simp; done) | (simp; omega))) | ((with_reducible refine Below.setCell ?_ ?_ _); rotate_left; focus (first | omega | (simp; done) | (simp; omega))) | ((with_reducible refine Below.trans ?_ (Below.mono (by with_reducible assumption) ?_)); rotate_left; focus (first | omega | (simp; done) | (simp; omega))))))); go_split_ands; clear hcc hff hbel))
            | (at_builtin; refine wpList_append_q rfl _ _ 104 rfl w.heap.size 44 iu (.int .u64 0) 8 Tryz.underlying104 HI.out HZ0.out HZ1.out HZ2.out rfl _ _ _ rfl ((hq1).below (Below.alloc (Below.refl _ _) (Nat.le_refl _) _)) _ _ (.int .u64 d) rfl (by simp [go_sem]) rfl (by unfold maxLen; omega) (by omega) (by (try simp); omega) ?_; intro v4 w4 hq4 ho4))
          have hb4 : Below w.heap.size w w4 := ho4.below (B := w.heap.size) (by repeat' (first | with_reducible exact Below.refl _ _ | with_reducible assumption | ((with_reducible refine Below.drew ?_)) | ((with_reducible refine below_drewN ?_ _)) | ((with_reducible refine Below.alloc ?_ ?_ _); rotate_left; focus (first | omega | (simp; done) | (simp; omega))) | ((with_reducible refine Below.setCell ?_ ?_ _); rotate_left; focus (first | omega | (simp; done) | (simp; omega))) | ((with_reducible refine Below.trans ?_ (Below.mono (by with_reducible assumption) ?_)); rotate_left; focus (first | omega | (simp; done) | (simp; omega))))) (by (try simp); omega) (fun k hk => hk)
          clear ho4
          go_wp2
          go_roundw
          case rel =>
            exact ⟨k + 1, by omega, by go_num, by rw [HS2.out]; exact QV.snoc hq4, hb4⟩
          case measure => simp [intOf]; omega
    · obtain rfl : k = l.length := by omega
      rw [List.take_length] at hq
      have hrl := rawk_len l
      have hBs := hB.size
      rcases hq.parts with ⟨rfl, hnil⟩ | ⟨blk, off, cap, rfl, hcap, hBb, hbl, hHU⟩
      · have hk0 : kns l = [] := by unfold kns; rw [hnil]; simp [srt, Go.Lib.compactUpTo]
        have K1 := Lib.hid sortn_n
        have K2 := Lib.hid compn_n
        have HK0 := Lib.hid hk0
        clear hq hnil hk0
        go_wp2_with (first
          | (go_at_call 111; ((with_reducible refine (K1.out _).mono ?_); rintro e w5 ⟨rfl, hbel⟩; obtain ⟨hcc, hff⟩ := bcell hbel; have hsz := hbel.size; (try simp at hsz); have hF : Below w.heap.size w w5 := (by ((repeat' apply And.intro) <;> first | (simp [go_sem, *]; done) | omega | (repeat' (first | with_reducible exact Below.refl _ _ | with_reducible assumption | ((with_reducible refine Below.drew ?_)) | ((with_reducible refine below_drewN ?_ _)) | ((with_reducible refine Below.alloc ?_ ?_ _); rotate_left; focus (first | omega | (simp; done) | (simp; omega))) | ((with_reducible refine Below.setCell ?_ ?_ _); rotate_left; focus (first | omega | (simp; done) | (simp; omega))) | ((with_reducible refine Below.trans ?_ (Below.mono (by with_reducible assumption) ?_)); rotate_left; focus (first | omega | (simp; done) | (simp; omega))))))); go_split_ands; clear hcc hff hbel))
          | (go_at_call 112; ((with_reducible refine (K2.out _).mono ?_); rintro e w6 ⟨rfl, hbel⟩; obtain ⟨hcc, hff⟩ := bcell hbel; have hsz := hbel.size; (try simp at hsz); have hF : Below w.heap.size w w6 := (by ((repeat' apply And.intro) <;> first | (simp [go_sem, *]; done) | omega | (repeat' (first | with_reducible exact Below.refl _ _ | with_reducible assumption | ((with_reducible refine Below.drew ?_)) | ((with_reducible refine below_drewN ?_ _)) | ((with_reducible refine Below.alloc ?_ ?_ _); rotate_left; focus (first | omega | (simp; done) | (simp; omega))) | ((with_reducible refine Below.setCell ?_ ?_ _); rotate_left; focus (first | omega | (simp; done) | (simp; omega))) | ((with_reducible refine Below.trans ?_ (Below.mono (by with_reducible assumption) ?_)); rotate_left; focus (first | omega | (simp; done) | (simp; omega))))))); go_split_ands; clear hcc hff hbel)))
        go_ret
        exact ⟨⟨none, 0, by rw [HK0.out]; rfl, .inl HK0.out⟩, by assumption⟩
      · have K1 := Lib.hid (sort64_c blk off cap (rawk l) wr hHU hbl (by omega))
        have K2 := Lib.hid (fun z h1 h2 => (show Calls Tryz.prog 112 #[.slice (some ⟨blk, off, none⟩) (rawk l).length cap] z _ from by
          have := comp64_c blk off cap (srt (rawk l)).toArray z h1 h2 (by simp [srt_len]; omega) (by simp [srt_len]; omega)
          rw [show (srt (rawk l)).toArray.size = (rawk l).length by simp [srt_len]] at this
          exact this))
        have hkn : kns l = Go.Lib.compactUpTo (srt (rawk l)).toArray (rawk l).length := by unfold kns; rw [show (srt (rawk l)).toArray.size = (rawk l).length by simp [srt_len]]
        rw [← hkn] at K2
        clear hq hHU hkn
        go_wp2_with fail
        with_reducible refine K1.out.mono ?_
        rintro e w5 ⟨rfl, hh5, ho5⟩
        have HH5 := Lib.hid hh5
        clear hh5
        have hl5 : blk < w5.heap.size := Nat.lt_of_lt_of_le hbl ho5.size
        go_wp2_with fail
        with_reducible refine (K2.out _ HH5.out hl5).mono ?_
        rintro e w6 ⟨rfl, hh6, ho6⟩
        have HH6 := Lib.hid (KV.of_hu hh6 (Nat.lt_of_lt_of_le hl5 ho6.size))
        have hB6 : Below w.heap.size w w6 := (ho5.trans ho6).below hB hBs (fun k hk => by omega)
        clear hh6 ho5 ho6
        go_wp2
        go_ret
        exact ⟨⟨_, _, rfl, HH6.out⟩, hB6⟩
end Go.Proofs.YtffaahipgabkhaaGreat
end
section
namespace Go.Proofs.YtffaahipgabkhaaGreat
set_option linter.unusedVariables false
set_option linter.unusedSimpArgs false
set_option maxRecDepth 100000
open Go.RowKit Fg Reg Go.Sort
attribute [local irreducible] Reg.wE Holds QS
section
attribute [local semireducible] QS Holds
theorem QV.only {S : Nat → Prop} {z z' : World} {B : Nat} {v : Value} {L : List Int} (h : QV z B v L) (ho : Only S z z') (hS : ∀ k, S k → k < B) : QV z' B v L := QS.only h ho hS
end
end Go.Proofs.YtffaahipgabkhaaGreat
end
section
namespace Go.Proofs.YtffaahipgabkhaaGreat
set_option linter.unusedVariables false
set_option linter.unusedSimpArgs false
set_option maxRecDepth 100000
open Go.RowKit Fg Reg Go.Sort
attribute [local irreducible] Reg.wE Holds QS
theorem KV.at {z : World} {p : Option Addr} {L : List Int} (h : KV z p L) {j : Nat} (hj : j < L.length) : ∃ b o, p = some ⟨b, o, none⟩ ∧ b < z.heap.size ∧ ∀ i, i < L.length → z.cell? ⟨b, o + i, none⟩ = some (.int .u64 (L.getD i 0)) := by
  rcases h with h | h
  · rw [h] at hj; exact absurd hj (by simp)
  · exact h
end Go.Proofs.YtffaahipgabkhaaGreat
end
section
namespace Go.Proofs.YtffaahipgabkhaaGreat
set_option linter.unusedVariables false
set_option linter.unusedSimpArgs false
set_option maxRecDepth 100000
open Go.RowKit Fg Reg Go.Sort
attribute [local irreducible] Reg.wE Holds QS
def rse (t : Int) (c : Cv) : Int := if kind c.m1 c.d c.m2 = 0 then 0 else if t < c.d then c.m1 else c.m2
end Go.Proofs.YtffaahipgabkhaaGreat
end
section
namespace Go.Proofs.YtffaahipgabkhaaGreat
set_option linter.unusedVariables false
set_option linter.unusedSimpArgs false
set_option maxRecDepth 100000
open Fg
def fk (T : Int) (l : List Cv) (k : Int) : Bool := decide (65536 * k < tots (csv k) l * T)
def fe (T : Int) (l : List Cv) : Bool := decide (65536 < tots csl l * T)
def fullv (T : Int) (l : List Cv) : Int × Bool := ((kns l).find? (fk T l)).elim (0, fe T l) (fun k => (k, true))
def lok (l : List Cv) : Bool := l.all fun c => decide (kind c.m1 c.d c.m2 ≠ 0)
def tok (T : Int) : Bool := decide (1 ≤ T ∧ T ≤ 65536)
def fullr (T : Int) (l : List Cv) : Int × Bool := if (tok T && lok l) = true then fullv T l else (0, false)
def fitr (T : Int) (l : List Cv) : Int := if tok T = false then 1 else if lok l = false then 21 else if (fullv T l).2 = true then 22 else 0
structure Adm (T : Int) (l : List Cv) : Prop where
  t1 : 1 ≤ T
  t2 : T ≤ 65536
  ok : lok l = true
  kn : ∀ k ∈ kns l, tots (csv k) l * T ≤ 65536 * k
  en : tots csl l * T ≤ 65536
theorem bend_d {c : Cv} (h : bend c = true) (h2 : 0 ≤ c.d) : 0 < c.d ∧ c.d ≤ 1048576 := by
  unfold bend kind at h
  simp only [decide_eq_true_eq] at h
  split at h
  · omega
  · rename_i g
    split at h
    · omega
    · split at h
      · omega
      · split at h
        · omega
        · split at h <;> omega
theorem kns_pos {l : List Cv} (hok : ∀ c ∈ l, c.ok) {k : Int} (hk : k ∈ kns l) : 0 < k ∧ k ≤ 1048576 := by
  obtain ⟨c, hc, hb, rfl⟩ := (mem_kns l k).1 hk
  exact bend_d hb (hok c hc).h2.1
def rest (T : Int) (l : List Cv) (k : Int) : Int := (65536 * k / T - tots (csv k) l) / k
def mn (a b : Int) : Int := if b < a then b else a
def room (T : Int) (l : List Cv) (K : List Int) : Int := K.foldl (fun r k => mn r (rest T l k)) (65536 / T - tots csl l)
def linc (n : Int) : Cv := ⟨n, 0, n⟩
theorem le_div {a b c : Int} (hc : 0 < c) : a ≤ b / c ↔ a * c ≤ b := Int.le_ediv_iff_mul_le hc
end Go.Proofs.YtffaahipgabkhaaGreat
end
