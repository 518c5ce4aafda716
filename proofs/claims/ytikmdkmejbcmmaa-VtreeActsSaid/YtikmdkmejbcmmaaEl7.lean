/- The reference of layers 14, 15: Mark, Next, Pick; same of eltree. -/
import Derived.Test.YtikmdkmejbcmmaaEl6
namespace Go.Proofs.Ytikmdkmejbcmmaa
set_option linter.unusedVariables false
set_option linter.unusedSimpArgs false
set_option maxRecDepth 100000
open Go.RowKit Fg Reg
attribute [local irreducible] Reg.wE NT

theorem qma_n (L : List Rw) (ad : Option Addr) (cap : Nat) (w : World) : Calls Try.prog 70 #[.slice ad L.length cap, .int .i64 (-1)] w fun ee w' => ee = .returned (.int .i64 0) ∧ Below w.heap.size w w' := by
  go_enter Try.func70, Try.ntmps70
  go_wp2
  go_ret
  refine ⟨rfl, ?_⟩
  (repeat' (first | assumption | exact Below.refl _ _ | refine Below.setCell ?_ (by first | (simp; done) | omega | (simp; omega)) _ | refine Below.alloc ?_ (by first | (simp; done) | omega | (simp; omega)) _ | refine Below.drew ?_ | refine below_drewN ?_ _))
theorem qma_y (L : List Rw) (j : Nat) (hj : j < L.length) (ad : Option Addr) (cap : Nat) (w : World) (hR : RwV Rw.cells 3 w ad L) : Calls Try.prog 70 #[.slice ad L.length cap, .int .i64 j] w fun ee w' => ee = .returned (.int .i64 (nthR L j).id) ∧ Below w.heap.size w w' := by
  obtain ⟨b, o, rfl, hb, p0, p1, p2⟩ := rw_cells hR hj
  have D0 : decide ((j : Int) < 0) = false := decide_eq_false (by omega)
  obtain ⟨n, hn⟩ : ∃ n, L.length = n := ⟨_, rfl⟩
  rw [hn] at hj ⊢
  obtain ⟨Y, hY⟩ : ∃ Y, nthR L j = Y := ⟨_, rfl⟩
  rw [hY] at p0 p1 p2 ⊢
  clear hR hn hY
  go_enter Try.func70, Try.ntmps70
  go_wp2
  go_ret
  refine ⟨rfl, ?_⟩
  (repeat' (first | assumption | exact Below.refl _ _ | refine Below.setCell ?_ (by first | (simp; done) | omega | (simp; omega)) _ | refine Below.alloc ?_ (by first | (simp; done) | omega | (simp; omega)) _ | refine Below.drew ?_ | refine below_drewN ?_ _))
def NX (L : List Rw) (v : Int) : Prop := v ≤ 9223372036854775808 ∧ (∀ r ∈ L, v ≤ r.a) ∧ (v = 9223372036854775808 ∨ ∃ r ∈ L, v = r.a)
theorem NX.uniq {L : List Rw} {v u : Int} (h : NX L v) (g : NX L u) : v = u := by
  obtain ⟨h1, h2, h3⟩ := h
  obtain ⟨g1, g2, g3⟩ := g
  rcases h3 with e | ⟨r, hr, e⟩ <;> rcases g3 with f | ⟨s, hs, f⟩
  · omega
  · have := h2 s hs; omega
  · have := g2 r hr; omega
  · have := h2 s hs; have := g2 r hr; omega
theorem NX.nil : NX [] 9223372036854775808 := ⟨Int.le_refl _, fun r h => by simp at h, .inl rfl⟩
theorem NX.snoc {A : List Rw} {v : Int} {y : Rw} (h : NX A v) : NX (A ++ [y]) (if y.a < v then y.a else v) := by
  obtain ⟨h1, h2, h3⟩ := h
  split
  · refine ⟨by omega, fun r hr => ?_, .inr ⟨y, by simp, rfl⟩⟩
    rcases List.mem_append.1 hr with g | g
    · have := h2 r g; omega
    · rw [List.mem_singleton.1 g]; exact Int.le_refl _
  · refine ⟨h1, fun r hr => ?_, ?_⟩
    · rcases List.mem_append.1 hr with g | g
      · exact h2 r g
      · rw [List.mem_singleton.1 g]; omega
    · rcases h3 with e | ⟨r, hr, e⟩
      · exact .inl e
      · exact .inr ⟨r, by simp [hr], e⟩
theorem nxt_nx {t : Tr} {L : List Rw} (h : TM t L) (hs : SS (tl t)) : NX L (nxt t) := ⟨(nxt_le h hs).1, (nxt_le h hs).2, nxt_has h⟩
set_option maxHeartbeats 2000000 in
theorem qne_c (L : List Rw) (n : Nat) (hln : L.length = n) (hn : n ≤ 1000) (ad : Option Addr) (cap : Nat) (N : Int) (hN : NX L N) (w : World) (hR : RwV Rw.cells 3 w ad L) :
    Calls Try.prog 71 #[.slice ad n cap] w fun ee w' => ee = .returned (.int .u64 N) ∧ Below w.heap.size w w' := by
  have HR := Lib.hid hR
  have HLN := Lib.hid hln
  have HN := Lib.hid hN
  clear hR hln hN
  go_enter Try.func71, Try.ntmps71
  go_wp2
  go_loopg [8, 3] n (fun k9 s9 s3 wr => ∃ (i : Nat) (v : Int), s9 = .int .i64 i ∧ s3 = .int .u64 v ∧ i ≤ n ∧ n - i ≤ k9 ∧ NX (L.take i) v ∧ Below w.heap.size w wr)
  case atStart => exact ⟨0, 9223372036854775808, rfl, rfl, by omega, by omega, NX.nil, by (repeat' (first | assumption | exact Below.refl _ _ | refine Below.setCell ?_ (by first | (simp; done) | omega | (simp; omega)) _ | refine Below.alloc ?_ (by first | (simp; done) | omega | (simp; omega)) _ | refine Below.drew ?_ | refine below_drewN ?_ _))⟩
  case round =>
    obtain ⟨i, v, rfl, rfl, hi, hk, hA, hB⟩ := hrel
    have HA := Lib.hid hA
    clear hA
    by_cases hin : i < n
    · obtain ⟨rb, ro, had, hpb, p0, p1, p2⟩ := rw_cells HR.out (i := i) (by rw [HLN.out]; exact hin); subst had; have p0 := (hB.cell hpb).trans p0; have p1 := (hB.cell hpb).trans p1; have p2 := (hB.cell hpb).trans p2; have hpr := Nat.lt_of_lt_of_le hpb hB.size; have W4 : IntKind.i64.wrap ((i : Int) + 1) = ((i + 1 : Nat) : Int) := (by rw [IntKind.wrap_i64]; omega); have htn := rw_next (l := L) (i := i) (by rw [HLN.out]; exact hin)
      obtain ⟨Y, hY⟩ : ∃ Y, nthR L i = Y := ⟨_, rfl⟩; rw [hY] at p0 p1 p2 htn; have HTN := Lib.hid htn; have HYY := Lib.hid hY; clear htn hY
      have HB := Lib.hid hB
      clear hB
      have hsn := HA.out.snoc (y := Y)
      by_cases hlt : Y.a < v
      · have D : decide (Y.a < v) = true := decide_eq_true hlt
        rw [if_pos hlt] at hsn
        have HSN := Lib.hid hsn
        clear hlt hsn
        go_wp2
        go_roundg (n - (i + 1))
        case rel =>
          refine ⟨i + 1, Y.a, by first | rfl | go_num | (congr 1; omega), rfl, by omega, Nat.le_refl _, by rw [HTN.out]; exact HSN.out, ?_⟩
          have hB := HB.out
          have hs := hB.size
          (repeat' (first | assumption | exact Below.refl _ _ | refine Below.setCell ?_ (by first | (simp; done) | omega | (simp; omega)) _ | refine Below.alloc ?_ (by first | (simp; done) | omega | (simp; omega)) _ | refine Below.drew ?_ | refine below_drewN ?_ _))
        case measure => omega
      · have D : decide (Y.a < v) = false := decide_eq_false hlt
        rw [if_neg hlt] at hsn
        have HSN := Lib.hid hsn
        clear hlt hsn
        go_wp2
        go_roundg (n - (i + 1))
        case rel =>
          refine ⟨i + 1, v, by first | rfl | go_num | (congr 1; omega), rfl, by omega, Nat.le_refl _, by rw [HTN.out]; exact HSN.out, ?_⟩
          have hB := HB.out
          have hs := hB.size
          (repeat' (first | assumption | exact Below.refl _ _ | refine Below.setCell ?_ (by first | (simp; done) | omega | (simp; omega)) _ | refine Below.alloc ?_ (by first | (simp; done) | omega | (simp; omega)) _ | refine Below.drew ?_ | refine below_drewN ?_ _))
        case measure => omega
    · have hie : i = n := by omega
      subst hie
      have hv : v = N := NX.uniq (L := L) (by have := HA.out; rwa [List.take_of_length_le (by rw [HLN.out]; exact Nat.le_refl _)] at this) HN.out
      subst hv
      clear hin
      go_wp2
      go_ret
      exact ⟨rfl, by with_reducible assumption⟩
def el (r : Rw) (now : Int) : Prop := r.a ≤ now ∧ r.a < 9223372036854775808
def PK (L : List Rw) (now : Int) (i : Nat) (J : Int) : Prop := (J = -1 ∧ ∀ k, k < i → ¬ el (nthR L k) now) ∨ ∃ j : Nat, j < i ∧ J = j ∧ el (nthR L j) now ∧ ∀ k, k < i → el (nthR L k) now → ¬ (nthR L k).b < (nthR L j).b ∧ ((nthR L k).b = (nthR L j).b → j ≤ k)
theorem PK.uniq {L : List Rw} {now : Int} {i : Nat} {J K : Int} (h : PK L now i J) (g : PK L now i K) : J = K := by
  rcases h with ⟨h1, h2⟩ | ⟨j, h1, h2, h3, h4⟩ <;> rcases g with ⟨g1, g2⟩ | ⟨k, g1, g2, g3, g4⟩
  · omega
  · exact absurd g3 (h2 k g1)
  · exact absurd h3 (g2 j h1)
  · have a1 := h4 k g1 g3
    have a2 := g4 j h1 h3
    have e : (nthR L k).b = (nthR L j).b := by omega
    have := a1.2 e
    have := a2.2 e.symm
    omega
theorem PK.keep {L : List Rw} {now : Int} {i : Nat} {J : Int} (h : PK L now i J) (hn : el (nthR L i) now → ∃ j : Nat, J = j ∧ ¬ (nthR L i).b < (nthR L j).b) : PK L now (i + 1) J := by
  rcases h with ⟨h1, h2⟩ | ⟨j, h1, h2, h3, h4⟩
  · refine .inl ⟨h1, fun k hk g => ?_⟩
    by_cases hki : k = i
    · subst hki
      obtain ⟨j, e, -⟩ := hn g
      omega
    · exact h2 k (by omega) g
  · refine .inr ⟨j, by omega, h2, h3, fun k hk g => ?_⟩
    by_cases hki : k = i
    · subst hki
      obtain ⟨j', e, hb⟩ := hn g
      have : j' = j := by omega
      subst this
      exact ⟨hb, fun _ => by omega⟩
    · exact h4 k (by omega) g
theorem PK.take {L : List Rw} {now : Int} {i : Nat} {J : Int} (h : PK L now i J) (he : el (nthR L i) now) (hn : J = -1 ∨ ∃ j : Nat, J = j ∧ (nthR L i).b < (nthR L j).b) : PK L now (i + 1) i := by
  rcases h with ⟨h1, h2⟩ | ⟨j, h1, h2, h3, h4⟩
  · refine .inr ⟨i, by omega, rfl, he, fun k hk g => ?_⟩
    by_cases hki : k = i
    · subst hki; exact ⟨by omega, fun _ => Nat.le_refl _⟩
    · exact absurd g (h2 k (by omega))
  · rcases hn with e | ⟨j', e, hb⟩
    · omega
    · have : j' = j := by omega
      subst this
      refine .inr ⟨i, by omega, rfl, he, fun k hk g => ?_⟩
      by_cases hki : k = i
      · subst hki; exact ⟨by omega, fun _ => Nat.le_refl _⟩
      · have := h4 k (by omega) g
        exact ⟨by omega, fun e => by omega⟩
set_option maxHeartbeats 8000000 in
theorem qpi_c (L : List Rw) (n : Nat) (hln : L.length = n) (hn : n ≤ 1000) (ad : Option Addr) (cap : Nat) (now J : Int) (hJ : PK L now n J) (w : World) (hR : RwV Rw.cells 3 w ad L) :
    Calls Try.prog 69 #[.slice ad n cap, .int .u64 now] w fun ee w' => ee = .returned (.int .i64 J) ∧ Below w.heap.size w w' := by
  have HR := Lib.hid hR
  have HLN := Lib.hid hln
  have HJ := Lib.hid hJ
  clear hR hln hJ
  go_enter Try.func69, Try.ntmps69
  go_wp2
  go_loopg [10, 5] n (fun k9 s9 s5 wr => ∃ (i : Nat) (K : Int), s9 = .int .i64 i ∧ s5 = .int .i64 K ∧ i ≤ n ∧ n - i ≤ k9 ∧ PK L now i K ∧ Below w.heap.size w wr)
  case atStart => exact ⟨0, -1, rfl, rfl, by omega, by omega, .inl ⟨rfl, fun k hk => by omega⟩, by (repeat' (first | assumption | exact Below.refl _ _ | refine Below.setCell ?_ (by first | (simp; done) | omega | (simp; omega)) _ | refine Below.alloc ?_ (by first | (simp; done) | omega | (simp; omega)) _ | refine Below.drew ?_ | refine below_drewN ?_ _))⟩
  case round =>
    obtain ⟨i, K, rfl, rfl, hi, hk, hA, hB⟩ := hrel
    have HA := Lib.hid hA
    by_cases hin : i < n
    · obtain ⟨rb, ro, had, hpb, p0, p1, p2⟩ := rw_cells HR.out (i := i) (by rw [HLN.out]; exact hin); subst had; have p0 := (hB.cell hpb).trans p0; have p1 := (hB.cell hpb).trans p1; have p2 := (hB.cell hpb).trans p2; have hpr := Nat.lt_of_lt_of_le hpb hB.size; have W4 : IntKind.i64.wrap ((i : Int) + 1) = ((i + 1 : Nat) : Int) := (by rw [IntKind.wrap_i64]; omega); have htn := rw_next (l := L) (i := i) (by rw [HLN.out]; exact hin)
      clear htn
      have HB := Lib.hid hB
      obtain ⟨Y, hY⟩ : ∃ Y, nthR L i = Y := ⟨_, rfl⟩
      rw [hY] at p0 p1 p2
      have HYY := Lib.hid hY
      clear hY
      by_cases g1 : Y.a ≤ now
      · have E1 : decide (Y.a ≤ now) = true := decide_eq_true g1
        by_cases g2 : Y.a < 9223372036854775808
        · have E2 : decide (Y.a < 9223372036854775808) = true := decide_eq_true g2
          have HEL : Hid (el (nthR L i) now) := Lib.hid (by rw [HYY.out]; exact ⟨g1, g2⟩)
          clear g1 g2
          by_cases hK : K = -1
          · subst hK
            have HP := Lib.hid (HA.out.take HEL.out (.inl rfl))
            clear hA hB
            go_wp2
            go_quiet (fail)
            go_wp2
            go_roundg (n - (i + 1))
            case rel =>
              refine ⟨i + 1, i, by first | rfl | go_num | (congr 1; omega), rfl, by omega, Nat.le_refl _, HP.out, ?_⟩
              have hB := HB.out
              have hs := hB.size
              (repeat' (first | assumption | exact Below.refl _ _ | refine Below.setCell ?_ (by first | (simp; done) | omega | (simp; omega)) _ | refine Below.alloc ?_ (by first | (simp; done) | omega | (simp; omega)) _ | refine Below.drew ?_ | refine below_drewN ?_ _))
            case measure => omega
          · obtain ⟨j, hj, hKj⟩ : ∃ j : Nat, j < i ∧ K = j := by
              rcases hA with ⟨h1, -⟩ | ⟨j, h1, h2, -⟩
              · exact absurd h1 hK
              · exact ⟨j, h1, h2⟩
            subst hKj
            obtain ⟨rb2, ro2, had2, hpb2, r0, r1, r2⟩ := rw_cells HR.out (i := j) (by rw [HLN.out]; omega)
            injection had2 with had2
            injection had2 with had2 had3
            subst had2 had3
            have r2 := (hB.cell hpb2).trans r2
            have hjn : j < n := by omega
            have DJ : decide ((j : Int) < 0) = false := decide_eq_false (by omega)
            clear hK hA r0 r1
            obtain ⟨Z, hZ⟩ : ∃ Z, nthR L j = Z := ⟨_, rfl⟩
            rw [hZ] at r2
            have HZZ := Lib.hid hZ
            clear hZ
            by_cases g3 : Y.b < Z.b
            · have E3 : decide (Y.b < Z.b) = true := decide_eq_true g3
              have HP := Lib.hid (HA.out.take HEL.out (.inr ⟨j, rfl, by rw [HYY.out, HZZ.out]; exact g3⟩))
              clear g3 hB
              go_wp2
              go_quiet (fail)
              go_wp2
              go_roundg (n - (i + 1))
              case rel =>
                refine ⟨i + 1, i, by first | rfl | go_num | (congr 1; omega), rfl, by omega, Nat.le_refl _, HP.out, ?_⟩
                have hB := HB.out
                have hs := hB.size
                (repeat' (first | assumption | exact Below.refl _ _ | refine Below.setCell ?_ (by first | (simp; done) | omega | (simp; omega)) _ | refine Below.alloc ?_ (by first | (simp; done) | omega | (simp; omega)) _ | refine Below.drew ?_ | refine below_drewN ?_ _))
              case measure => omega
            · have E3 : decide (Y.b < Z.b) = false := decide_eq_false g3
              have HP := Lib.hid (HA.out.keep fun _ => ⟨j, rfl, by rw [HYY.out, HZZ.out]; exact g3⟩)
              clear g3 hB
              go_wp2
              go_quiet (fail)
              go_wp2
              go_roundg (n - (i + 1))
              case rel =>
                refine ⟨i + 1, j, by first | rfl | go_num | (congr 1; omega), rfl, by omega, Nat.le_refl _, HP.out, ?_⟩
                have hB := HB.out
                have hs := hB.size
                (repeat' (first | assumption | exact Below.refl _ _ | refine Below.setCell ?_ (by first | (simp; done) | omega | (simp; omega)) _ | refine Below.alloc ?_ (by first | (simp; done) | omega | (simp; omega)) _ | refine Below.drew ?_ | refine below_drewN ?_ _))
              case measure => omega
        · have E2 : decide (Y.a < 9223372036854775808) = false := decide_eq_false g2
          have HP := Lib.hid (HA.out.keep fun g => absurd (by rw [HYY.out] at g; exact g.2) g2)
          clear g1 g2 hA hB
          go_wp2
          go_quiet (fail)
          go_wp2
          go_roundg (n - (i + 1))
          case rel =>
            refine ⟨i + 1, K, by first | rfl | go_num | (congr 1; omega), rfl, by omega, Nat.le_refl _, HP.out, ?_⟩
            have hB := HB.out
            have hs := hB.size
            (repeat' (first | assumption | exact Below.refl _ _ | refine Below.setCell ?_ (by first | (simp; done) | omega | (simp; omega)) _ | refine Below.alloc ?_ (by first | (simp; done) | omega | (simp; omega)) _ | refine Below.drew ?_ | refine below_drewN ?_ _))
          case measure => omega
      · have E1 : decide (Y.a ≤ now) = false := decide_eq_false g1
        have HP := Lib.hid (HA.out.keep fun g => absurd (by rw [HYY.out] at g; exact g.1) g1)
        clear g1 hA hB
        go_wp2
        go_quiet (fail)
        go_wp2
        go_roundg (n - (i + 1))
        case rel =>
          refine ⟨i + 1, K, by first | rfl | go_num | (congr 1; omega), rfl, by omega, Nat.le_refl _, HP.out, ?_⟩
          have hB := HB.out
          have hs := hB.size
          (repeat' (first | assumption | exact Below.refl _ _ | refine Below.setCell ?_ (by first | (simp; done) | omega | (simp; omega)) _ | refine Below.alloc ?_ (by first | (simp; done) | omega | (simp; omega)) _ | refine Below.drew ?_ | refine below_drewN ?_ _))
        case measure => omega
    · have hie : i = n := by omega
      subst hie
      have hv : K = J := PK.uniq HA.out HJ.out
      subst hv
      clear hin hA
      go_wp2
      go_ret
      exact ⟨rfl, by with_reducible assumption⟩
theorem int_info : (Try.prog.info? 3).map (fun i => (i.zero, i.size, i.bytes)) = some (some (.int .i64 0), 1, 8) := by kernel_rfl
theorem int_parts : ∃ i, Try.prog.info? 3 = some i ∧ i.zero = some (.int .i64 0) ∧ i.size = 1 ∧ i.bytes = 8 := by
  obtain ⟨i, hi, h⟩ := Option.map_eq_some_iff.1 int_info
  injection h with h1 h2
  injection h2 with h2 h3
  exact ⟨i, hi, h1, h2, h3⟩
set_option maxHeartbeats 4000000 in
theorem ints_eq (zs : List Int) (a1 a2 : Option Addr) (c1 c2 : Nat) (hn : zs.length ≤ 100000) (w : World) (h1 : RwV (fun x : Int => [Value.int .i64 x]) 1 w a1 zs) (h2 : RwV (fun x : Int => [Value.int .i64 x]) 1 w a2 zs) : Calls Try.prog 72 #[.slice a1 zs.length c1, .slice a2 zs.length c2] w fun ee w' => ee = .returned (.bool true) ∧ Below w.heap.size w w' := by
  have H1 := Lib.hid h1
  have H2 := Lib.hid h2
  clear h1 h2
  go_enter Try.func72, Try.ntmps72
  go_wp2_with fail
  go_loopw [13] (fun ii wr => ∃ k : Nat, k ≤ zs.length ∧ ii = .int .i64 k ∧ Below w.heap.size w wr) (fun ii _ => zs.length - (intOf ii).toNat)
  case atStart => exact ⟨0, Nat.zero_le _, rfl, Below.refl _ _⟩
  case round =>
    obtain ⟨k, hk, rfl, hB⟩ := hrel
    have hsz := hB.size
    by_cases hlt : k < zs.length
    · obtain ⟨b1, o1, rfl, hb1, hr1⟩ := (H1.out.below hB) k hlt
      obtain ⟨b2, o2, rfl, hb2, hr2⟩ := (H2.out.below hB) k hlt
      have e1 : wr.cell? ⟨b1, o1 + k, none⟩ = some (.int .i64 zs[k]) := by have := hr1 0 _ rfl; simpa using this
      have e2 : wr.cell? ⟨b2, o2 + k, none⟩ = some (.int .i64 zs[k]) := by have := hr2 0 _ rfl; simpa using this
      clear hr1 hr2
      generalize zs[k] = y at *
      go_wp2
      go_quiet (fail)
      go_wp2
      go_roundw
      case rel => exact ⟨k + 1, by omega, by go_num, by ((repeat' apply And.intro) <;> first | (simp [go_sem, *]; done) | omega | (repeat' (first | with_reducible exact Below.refl _ _ | with_reducible assumption | ((with_reducible refine Below.drew ?_)) | ((with_reducible refine below_drewN ?_ _)) | ((with_reducible refine Below.alloc ?_ ?_ _); rotate_left; focus (first | omega | (simp; done) | (simp; omega))) | ((with_reducible refine Below.setCell ?_ ?_ _); rotate_left; focus (first | omega | (simp; done) | (simp; omega))) | ((with_reducible refine Below.trans ?_ (Below.mono (by with_reducible assumption) ?_)); rotate_left; focus (first | omega | (simp; done) | (simp; omega))))))⟩
      case measure => simp [intOf]; omega
    · obtain rfl : k = zs.length := by omega
      go_wp2
      go_ret
      exact ⟨rfl, hB⟩
theorem stp4 {tb mb a : Nat} {t : Tr} {L : List Rw} {ad ao : Option Addr} {w z z' : World} (h : TBL z tb mb a t L ∧ RwV Rw.cells 3 z ad L ∧ RwV (fun x : Int => [Value.int .i64 x]) 1 z ao (L.map Rw.id) ∧ Below w.heap.size w z) (hb : Below z.heap.size z z') :
    TBL z' tb mb a t L ∧ RwV Rw.cells 3 z' ad L ∧ RwV (fun x : Int => [Value.int .i64 x]) 1 z' ao (L.map Rw.id) ∧ Below w.heap.size w z' := ⟨h.1.below hb, h.2.1.below hb, h.2.2.1.below hb, h.2.2.2.trans (hb.mono h.2.2.2.size)⟩
set_option maxHeartbeats 16000000 in
theorem e_same_c (tb mb a : Nat) (t : Tr) (L : List Rw) (n : Nat) (hln : L.length = n) (hn : n ≤ 80) (ad : Option Addr) (cap : Nat) (now : Int) (w : World) (hT : TBL w tb mb a t L) (hok : okR L) (hR : RwV Rw.cells 3 w ad L) :
    Calls Try.prog 38 #[.pointer (some ⟨tb, 0, none⟩), .slice ad n cap, .int .u64 now] w fun ee w' => ee = .returned (.bool true) ∧ Below w.heap.size w w' := by
  obtain ⟨ii, ci0, cz0, cz1, cz2⟩ := int_parts
  have CI0 := Lib.hid ci0
  have CZ0 := Lib.hid cz0
  have CZ1 := Lib.hid cz1
  have CZ2 := Lib.hid cz2
  clear ci0 cz0 cz1 cz2
  have kr : ∀ j, j < L.length → ∀ z, TBL z tb mb a t L → Calls Try.prog 37 #[.pointer (some ⟨tb, 0, none⟩), .int .i64 (nthR L j).id] z fun e w' => e = .returned (.tuple #[.int .u64 (nthR L j).a, .int .u64 (nthR L j).b, .int .i64 0]) ∧ Below z.heap.size z w' := fun j hj z h => e_getr tb mb a t L (nthR L j) z h (hok _ (nthR_mem hj)).1 (nthR_mem hj)
  have ki := fun z (h : TBL z tb mb a t L) => e_ids_c tb mb a t L z h (by omega)
  have kl := fun z (h : TBL z tb mb a t L) => e_len_c tb mb a t L z h
  have kn := fun z (h : TBL z tb mb a t L) => e_nextN tb mb a t L z h
  have kq := fun z ad cap (h : RwV Rw.cells 3 z ad L) => qne_c L n hln (by omega) ad cap (nxt t) (nxt_nx hT.tm hT.tr.ss) z h
  have kin := fun a1 a2 c1 c2 z (h1 : RwV (fun x : Int => [Value.int .i64 x]) 1 z a1 (L.map Rw.id)) (h2 : RwV (fun x : Int => [Value.int .i64 x]) 1 z a2 (L.map Rw.id)) => ints_eq (L.map Rw.id) a1 a2 c1 c2 (by rw [List.length_map]; omega) z h1 h2
  simp only [List.length_map] at kin
  obtain ⟨pid, pok, J, hJ, hpk, hmk, hpj⟩ : ∃ (pid : Int) (pok : Bool) (J : Int), PK L now n J ∧ (∀ z, TBL z tb mb a t L → Calls Try.prog 39 #[.pointer (some ⟨tb, 0, none⟩), .int .u64 now] z fun e w' => e = .returned (.tuple #[.int .i64 pid, .bool pok]) ∧ Below z.heap.size z w') ∧ (∀ z ad cap, RwV Rw.cells 3 z ad L → Calls Try.prog 70 #[.slice ad L.length cap, .int .i64 J] z fun e w' => e = .returned (.int .i64 pid) ∧ Below z.heap.size z w') ∧ decide (0 ≤ J) = pok := by
    cases ho : belL (mnn now 9223372036854775807) (tl t) with
    | none =>
      have h0 := e_pickN hT.tm hT.tr.ss ho
      refine ⟨0, false, -1, .inl ⟨rfl, fun k hk g => h0 _ (nthR_mem (by omega)) g⟩, fun z h => ?_, fun z ad cap h => qma_n L ad cap z, rfl⟩
      have h1 := e_pick_c tb mb a t L now z h
      rw [ho] at h1
      exact h1
    | some m =>
      obtain ⟨r0, hr0, rfl, hq1, hq2, hq3⟩ := e_pickS hT.tm hT.tr.ss ho
      obtain ⟨j, hj, hjr⟩ := nthR_of hr0
      refine ⟨r0.id, true, j, .inr ⟨j, by omega, rfl, by rw [hjr]; exact ⟨hq1, hq2⟩, fun k hk g => ?_⟩, fun z h => ?_, fun z ad cap h => ?_, decide_eq_true (by omega)⟩
      · have h3 := hq3 _ (nthR_mem (L := L) (j := k) (by omega)) g.1 g.2
        rw [hjr]
        refine ⟨h3.1, fun e => ?_⟩
        have h4 := h3.2 e
        rcases Nat.lt_or_ge k j with hkj | hkj
        · have := rs_get hT.rs hkj hj
          rw [hjr] at this
          omega
        · exact hkj
      · have h1 := e_pick_c tb mb a t L now z h
        rw [ho] at h1
        exact h1
      · have h1 := qma_y L j hj ad cap z h
        rw [hjr] at h1
        exact h1
  have hmem := fun j (hj : j < L.length) => nthR_mem hj
  have htk := fun j (hj : j < L.length) => rw_next (l := L) (i := j) hj
  simp only [hln] at kr ki kl kin hmk hmem htk
  have KQ := Lib.hid (fun z ad cap (h : RwV Rw.cells 3 z ad L) => qpi_c L n hln (by omega) ad cap now J hJ z h)
  have KR := Lib.hid kr
  have KI := Lib.hid ki
  have KL := Lib.hid kl
  have KIN := Lib.hid kin
  have KP := Lib.hid hpk
  have KM := Lib.hid hmk
  have HT := Lib.hid hT
  have HR := Lib.hid hR
  have HLN := Lib.hid hln
  have HTK := Lib.hid htk
  have HPJ := hpj
  generalize nxt t = N at *
  have KN := Lib.hid kn
  have KQN := Lib.hid kq
  obtain ⟨base, hbase⟩ : ∃ base, w.heap.size = base := ⟨_, rfl⟩
  have HBA := Lib.hid hbase
  clear kr ki kl kin hpk hmk hT hR hln hmem htk hok hJ hbase kn kq
  go_enter Try.func38, Try.ntmps38
  go_wp2
  go_loopg [18, 7] n (fun k9 s9 s7 wy => ∃ (j : Nat) (ao : Option Addr) (c : Nat), s9 = .int .i64 j ∧ s7 = .slice ao j c ∧ j ≤ n ∧ n - j ≤ k9 ∧ wy.ownsRow base 3 1 (.slice ao j c) j (((L.take j).map Rw.id).flatMap (fun x : Int => [Value.int .i64 x])) ∧ base ≤ wy.heap.size ∧ Below w.heap.size w wy)
  case atStart => exact ⟨0, none, 0, rfl, rfl, by omega, by omega, World.ownsRow_nil _ _ _ _, by rw [← HBA.out]; simp, by (repeat' (first | assumption | exact Below.refl _ _ | refine Below.setCell ?_ (by first | (simp; done) | omega | (simp; omega)) _ | refine Below.alloc ?_ (by first | (simp; done) | omega | (simp; omega)) _ | refine Below.drew ?_ | refine below_drewN ?_ _))⟩
  case round =>
    rename World => wy
    obtain ⟨j, ao, c, rfl, rfl, hj, hkk, hO, hbs, hB⟩ := hrel
    have HO := Lib.hid hO
    have HB := Lib.hid hB
    have hszB := hB.size
    by_cases hjn : j < n
    · obtain ⟨rb, ro, had, hpb, p0, p1, p2⟩ := rw_cells HR.out (i := j) (by rw [HLN.out]; exact hjn)
      subst had
      have p0 := (hB.cell hpb).trans p0
      have p1 := (hB.cell hpb).trans p1
      have p2 := (hB.cell hpb).trans p2
      have hpr := Nat.lt_of_lt_of_le hpb hB.size
      have W4 : IntKind.i64.wrap ((j : Int) + 1) = ((j + 1 : Nat) : Int) := by rw [IntKind.wrap_i64]; omega
      have KRJ := Lib.hid (KR.out j hjn)
      have htj := HTK.out j hjn
      obtain ⟨Y, hY⟩ : ∃ Y, nthR L j = Y := ⟨_, rfl⟩
      rw [hY] at p0 p1 p2 htj
      simp only [hY] at KRJ
      have HTJ := Lib.hid htj
      clear htj hY hB hO
      go_wp2_with (first
        | go_guarded
        | (go_at_call 37; (with_reducible refine (KRJ.out _ (HT.out.below (by have hB := HB.out; (repeat' (first | assumption | exact Below.refl _ _ | refine Below.setCell ?_ (by first | (simp; done) | omega | (simp; omega)) _ | refine Below.alloc ?_ (by first | (simp; done) | omega | (simp; omega)) _ | refine Below.drew ?_ | refine below_drewN ?_ _))))).mono ?_); rintro _ w5 ⟨rfl, hbel⟩; (have HB5 : Hid (Below base wy w5) := Lib.hid ((Below.alloc (Below.refl _ _) (by omega) _).trans (hbel.mono (by simp; omega)))); (have HO5 := Lib.hid (row_bel (World.ownsRow.alloc HO.out _) hbel)); (have hs5 := HB5.out.size); obtain ⟨hcc, hff⟩ := bcell hbel; have hsz := hbel.size; (try simp at hsz); have hF : (w5.cell? ⟨wy.heap.size, 0, none⟩ = some (.int .i64 (Y).id) ∧ w5.cell? ⟨wy.heap.size, 1, none⟩ = some (.int .u64 (Y).a) ∧ w5.cell? ⟨wy.heap.size, 2, none⟩ = some (.int .u64 (Y).b) ∧ wy.heap.size < w5.heap.size) := (by ((repeat' apply And.intro) <;> first | (simp [go_sem, *]; done) | omega | (repeat' (first | with_reducible exact Below.refl _ _ | with_reducible assumption | ((with_reducible refine Below.drew ?_)) | ((with_reducible refine below_drewN ?_ _)) | ((with_reducible refine Below.alloc ?_ ?_ _); rotate_left; focus (first | omega | (simp; done) | (simp; omega))) | ((with_reducible refine Below.setCell ?_ ?_ _); rotate_left; focus (first | omega | (simp; done) | (simp; omega))) | ((with_reducible refine Below.trans ?_ (Below.mono (by with_reducible assumption) ?_)); rotate_left; focus (first | omega | (simp; done) | (simp; omega))))))); go_split_ands; clear hcc hff hbel)
        | (at_builtin; refine wpList_append_own _ rfl _ _ 77 rfl base 3 ii (.int .i64 0) 1 8 Try.underlying77 CI0.out CZ0.out CZ1.out CZ2.out rfl (by decide) (.slice ao j c) _ _ rfl (World.ownsRow.alloc HO5.out _) ⟨_, 0, none⟩ 1 1 [Value.int .i64 Y.id] rfl rfl ?c1 ?c2 ?c3 ?c4 ?c5 ?_; (case c1 => (intro q u hu; rcases q with _ | q <;> simp at hu <;> (try subst hu) <;> simp [Addr.add, go_sem, *])); (case c2 => (intro v hv; simp at hv; subst hv; rfl)); (case c3 => (unfold maxLen; omega)); (case c4 => omega); (case c5 => (simp; omega)); intro v2 z2 hown2 hg2 _; (have hb2 : Below base w5 z2 := (Below.alloc (Below.refl _ _) (by omega) _).grown hg2 (by simp; omega) (fun q hq => (HO5.out.lt q hq).1)); obtain ⟨a2, c2, rfl⟩ := row_form hown2; (have HO2 := Lib.hid hown2); (have HB2 := Lib.hid (HB5.out.trans hb2)); clear hown2 hg2 hb2))
      go_roundg (n - (j + 1))
      case rel =>
        refine ⟨j + 1, a2, c2, by first | rfl | go_num | (congr 1; omega), rfl, by omega, Nat.le_refl _, ?_, Nat.le_trans hbs HB2.out.size, HB.out.trans (HB2.out.mono (by have := HBA.out; omega))⟩
        have h := HO2.out
        rw [HTJ.out, List.map_append, List.flatMap_append]
        exact h
      case measure => omega
    · have hje : j = n := by omega
      subst hje
      have hrow : RwV (fun x : Int => [Value.int .i64 x]) 1 wy ao (L.map Rw.id) := by
        have h := HO.out
        rw [List.take_of_length_le (by rw [HLN.out]; exact Nat.le_refl _)] at h
        have h2 : wy.ownsRow base 3 1 (.slice ao j c) (L.map Rw.id).length ((L.map Rw.id).flatMap (fun x : Int => [Value.int .i64 x])) := by rw [List.length_map, HLN.out]; exact h
        obtain ⟨a9, c9, e9, hr9, -, -, -⟩ := RwV.of_own icl_of h2
        injection e9 with e1 e2 e3
        subst e1
        exact hr9
      have HRO := Lib.hid hrow
      clear hrow hO hjn hB
      have HSS : Hid (TBL wy tb mb a t L ∧ RwV Rw.cells 3 wy ad L ∧ RwV (fun x : Int => [Value.int .i64 x]) 1 wy ao (L.map Rw.id) ∧ Below w.heap.size w wy) := Lib.hid ⟨HT.out.below HB.out, HR.out.below HB.out, HRO.out, HB.out⟩
      go_wp2_with (first
        | go_guarded
        | (go_at_call 39; (with_reducible refine (KP.out _ HSS.out.1).mono ?_); rintro _ wk ⟨rfl, hbel⟩; have HSS := Lib.hid (stp4 HSS.out hbel); clear hbel)
        | (go_at_call 41; (with_reducible refine (KN.out _ HSS.out.1).mono ?_); rintro _ wk ⟨rfl, hbel⟩; have HSS := Lib.hid (stp4 HSS.out hbel); clear hbel)
        | (go_at_call 71; (with_reducible refine (KQN.out _ _ _ HSS.out.2.1).mono ?_); rintro _ wk ⟨rfl, hbel⟩; have HSS := Lib.hid (stp4 HSS.out hbel); clear hbel)
        | (go_at_call 69; (with_reducible refine (KQ.out _ _ _ HSS.out.2.1).mono ?_); rintro _ wk ⟨rfl, hbel⟩; have HSS := Lib.hid (stp4 HSS.out hbel); clear hbel)
        | (go_at_call 70; (with_reducible refine (KM.out _ _ _ HSS.out.2.1).mono ?_); rintro _ wk ⟨rfl, hbel⟩; have HSS := Lib.hid (stp4 HSS.out hbel); clear hbel)
        | (go_at_call 42; (with_reducible refine (KL.out _ HSS.out.1).mono ?_); rintro _ wk ⟨rfl, hbel⟩; have HSS := Lib.hid (stp4 HSS.out hbel); clear hbel)
        | (go_at_call 40; (with_reducible refine (KI.out _ HSS.out.1).mono ?_); rintro _ wk ⟨⟨ai, ci, rfl, hri⟩, hbel⟩; have HSS := Lib.hid (stp4 HSS.out hbel); have HRI := Lib.hid hri; clear hbel hri)
        | (go_at_call 72; (with_reducible refine (KIN.out _ _ _ _ _ HRI.out HSS.out.2.2.1).mono ?_); rintro _ wk ⟨rfl, hbel⟩; have HSS := Lib.hid (stp4 HSS.out hbel); clear hbel))
      go_ret
      exact ⟨rfl, HSS.out.2.2.2⟩
end Go.Proofs.Ytikmdkmejbcmmaa
