/- UpperBounds. -/
import Derived.Test.YtdahjhokcjfioaaUb1
import Derived.Test.YtdahjhokcjfioaaUp7
import Derived.Test.YtdahjhokcjfioaaRows0
import Derived.Deep.MidRow
namespace Go.Proofs.Ytdahjhokcjfioaa
set_option linter.unusedVariables false
set_option linter.unusedSimpArgs false
set_option maxRecDepth 100000
open Go.RowKit Fg Reg
attribute [local irreducible] Reg.wE

structure Ac where
  kd : Int
  ln : Int
  tk : Int
instance : Inhabited Ac := ⟨⟨0, 0, 0⟩⟩
structure Ac.wf (x : Ac) : Prop where
  l0 : -9223372036854775808 ≤ x.ln
  l1 : x.ln ≤ 9223372036854775807
  t0 : 0 ≤ x.tk
  t1 : x.tk ≤ 18446744073709551615
theorem acts_of {w : World} {v : Value} (h : Op.FlatSlice w 3 [.int .i64, .int .i64, .int .u64] v) :
    ∃ a, ∃ qs : List Ac, ∃ cap, v = .slice a qs.length cap ∧ RwV (fun q : Ac => [Value.int .i64 q.kd, Value.int .i64 q.ln, Value.int .u64 q.tk]) 3 w a qs ∧ ∀ k (h : k < qs.length), qs[k].wf := by
  rcases h with h | ⟨a, cap, h, hc⟩ | ⟨b, o, n, cap, css, h0, rfl, h3, h4, hlt, hn, hi⟩
  · exact ⟨none, [], 0, h, RwV.nil _ _, fun k h => absurd h (Nat.not_lt_zero _)⟩
  · exact ⟨some a, [], cap, h, RwV.nil _ _, fun k h => absurd h (Nat.not_lt_zero _)⟩
  · have h1 : ∀ i, i < n → ∃ q : Ac, w.rangeAt b (o + i * 3) [Value.int .i64 q.kd, Value.int .i64 q.ln, Value.int .u64 q.tk] ∧ q.wf := fun i hin => by
      obtain ⟨hf, he⟩ := hi i (by omega)
      obtain ⟨_, _, e0, ⟨x0, rfl, w0⟩, _, _, rfl, ⟨x1, rfl, w1⟩, _, _, rfl, ⟨x2, rfl, w2⟩, rfl⟩ := hf
      rw [e0] at he
      have i1 := bounds_i64 w1
      have i2 := bounds_u64 w2
      exact ⟨⟨x0, x1, x2⟩, fun j x hx => he j x hx, ⟨i1.1, by have := i1.2; omega, i2.1, by have := i2.2; omega⟩⟩
    obtain ⟨qs, hqs⟩ := Go.Deep.choose_lt h1
    refine ⟨some ⟨b, o, none⟩, (List.range n).map qs, cap, by simp, fun k hk => ?_, fun k hk => ?_⟩
    · have := hqs k (by simpa using hk)
      exact ⟨b, o, rfl, hlt, by simpa using this.1⟩
    · have := hqs k (by simpa using hk)
      simpa using this.2
theorem pclC : CellsOf (fun q : Int × Int => [Value.int .u64 q.1, Value.int .u64 q.2]) 2 := ⟨fun _ => rfl, fun x v hv => by
  simp only [List.mem_cons, List.not_mem_nil, or_false] at hv
  rcases hv with rfl | rfl <;> rfl, by decide⟩
theorem snt_parts : ∃ i, Try.prog.info? 100 = some i ∧ i.zero = some (.agg #[.int .u64 0, .int .u64 0]) ∧ i.size = 2 ∧ i.bytes = 16 := by
  have h : (Try.prog.info? 100).map (fun i => (i.zero, i.size, i.bytes)) = some (some (.agg #[.int .u64 0, .int .u64 0]), 2, 16) := by kernel_rfl
  obtain ⟨i, hi, h⟩ := Option.map_eq_some_iff.1 h
  simp only [Prod.mk.injEq] at h
  exact ⟨i, hi, h.1, h.2.1, h.2.2⟩
theorem act_size : (Try.prog.info? 102).map (·.size) = some 3 := by kernel_rfl
theorem snt_size : (Try.prog.info? 100).map (·.size) = some 2 := by kernel_rfl
theorem own_setX {z : World} {X : Nat} {e : TypeId} {size n : Nat} {v : Value} {xs : List Value} (h : z.ownsRow (X + 1) e size v n xs) (o : Nat) (u : Value) : (z.setCell ⟨X, o, none⟩ u).ownsRow (X + 1) e size v n xs :=
  row_only h ((Only.refl (fun k => k = X) z).setCell (.inl rfl) u) (fun k hk hle => by subst hk; omega)
theorem bcellB {B : Nat} {W w' : World} (hb : Below B W w') : (∀ b o, b < B → w'.cell? ⟨b, o, none⟩ = W.cell? ⟨b, o, none⟩) ∧ (∀ b o, b < B → w'.frozen? ⟨b, o, none⟩ = W.frozen? ⟨b, o, none⟩) := by
  refine ⟨fun b o h => hb.cell (p := ⟨b, o, none⟩) h, fun b o h => ?_⟩
  unfold World.frozen?
  rw [hb.block b h]
theorem shrunk {G : World → Prop} {w : World} (F : World → Prop) (hF : F w) (h : ∀ n, F n → G n) : G w := h w hF
theorem bounds_out (c1 cd c2 lm : Int) (a : Option Addr) (n ce : Nat) (h1 : In c1) (h2 : In cd) (h3 : In c2) (h : 60 < n ∨ (n ≤ 60 ∧ lm < 1) ∨ (n ≤ 60 ∧ 1 ≤ lm ∧ 16384 < lm) ∨ (n ≤ 60 ∧ 1 ≤ lm ∧ lm ≤ 16384 ∧ ¬ kind c1 cd c2 = 2 ∧ ¬ kind c1 cd c2 = 3)) (w : World) :
    Calls Try.prog 8 #[.agg #[.int .u64 (c1), .int .u64 (cd), .int .u64 (c2)], .slice a n ce, .int .i64 lm] w fun e w' => e = .returned (.bool true) ∧ Below w.heap.size w w' := by
  have K := Lib.hid sixty_c
  rcases h with h | ⟨e1, h⟩ | ⟨e1, e2, h⟩ | ⟨e1, e2, e3, h, g⟩
  · have d0 : decide ((60 : Int) < n) = true := by simp; omega
    clear h
    go_enter Try.func8, Try.ntmps8
    go_wp2_with (go_at_call 42; ((with_reducible refine (K.out _).mono ?_); rintro e w1 ⟨rfl, hbel⟩; obtain ⟨hcc, hff⟩ := bcell hbel; have hsz := hbel.size; (try simp at hsz); have hF : Below w.heap.size w w1 := (by ((repeat' apply And.intro) <;> first | (simp [go_sem, *]; done) | omega | (repeat' (first | with_reducible exact Below.refl _ _ | with_reducible assumption | ((with_reducible refine Below.drew ?_)) | ((with_reducible refine below_drewN ?_ _)) | ((with_reducible refine Below.alloc ?_ ?_ _); rotate_left; focus (first | omega | (simp; done) | (simp; omega))) | ((with_reducible refine Below.setCell ?_ ?_ _); rotate_left; focus (first | omega | (simp; done) | (simp; omega))) | ((with_reducible refine Below.trans ?_ (Below.mono (by with_reducible assumption) ?_)); rotate_left; focus (first | omega | (simp; done) | (simp; omega))))))); go_split_ands; clear hcc hff hbel))
    (go_ret; refine ⟨?_, ?_⟩; (focus (exact rfl)); ((repeat' (first | with_reducible exact Below.refl _ _ | with_reducible assumption | ((with_reducible refine Below.drew ?_)) | ((with_reducible refine below_drewN ?_ _)) | ((with_reducible refine Below.alloc ?_ ?_ _); rotate_left; focus (first | omega | (simp; done) | (simp; omega))) | ((with_reducible refine Below.setCell ?_ ?_ _); rotate_left; focus (first | omega | (simp; done) | (simp; omega))) | ((with_reducible refine Below.trans ?_ (Below.mono (by with_reducible assumption) ?_)); rotate_left; focus (first | omega | (simp; done) | (simp; omega))))); done))
  · have d0 : decide ((60 : Int) < n) = false := by simp; omega
    have q1 : decide (lm < 1) = true := by simpa using h
    clear h e1
    go_enter Try.func8, Try.ntmps8
    go_wp2_with (go_at_call 42; ((with_reducible refine (K.out _).mono ?_); rintro e w1 ⟨rfl, hbel⟩; obtain ⟨hcc, hff⟩ := bcell hbel; have hsz := hbel.size; (try simp at hsz); have hF : Below w.heap.size w w1 := (by ((repeat' apply And.intro) <;> first | (simp [go_sem, *]; done) | omega | (repeat' (first | with_reducible exact Below.refl _ _ | with_reducible assumption | ((with_reducible refine Below.drew ?_)) | ((with_reducible refine below_drewN ?_ _)) | ((with_reducible refine Below.alloc ?_ ?_ _); rotate_left; focus (first | omega | (simp; done) | (simp; omega))) | ((with_reducible refine Below.setCell ?_ ?_ _); rotate_left; focus (first | omega | (simp; done) | (simp; omega))) | ((with_reducible refine Below.trans ?_ (Below.mono (by with_reducible assumption) ?_)); rotate_left; focus (first | omega | (simp; done) | (simp; omega))))))); go_split_ands; clear hcc hff hbel))
    (go_ret; refine ⟨?_, ?_⟩; (focus (exact rfl)); ((repeat' (first | with_reducible exact Below.refl _ _ | with_reducible assumption | ((with_reducible refine Below.drew ?_)) | ((with_reducible refine below_drewN ?_ _)) | ((with_reducible refine Below.alloc ?_ ?_ _); rotate_left; focus (first | omega | (simp; done) | (simp; omega))) | ((with_reducible refine Below.setCell ?_ ?_ _); rotate_left; focus (first | omega | (simp; done) | (simp; omega))) | ((with_reducible refine Below.trans ?_ (Below.mono (by with_reducible assumption) ?_)); rotate_left; focus (first | omega | (simp; done) | (simp; omega))))); done))
  · have d0 : decide ((60 : Int) < n) = false := by simp; omega
    have q1 : decide (lm < 1) = false := by simp; omega
    have q2 : decide (16384 < lm) = true := by simpa using h
    clear h e1 e2
    go_enter Try.func8, Try.ntmps8
    go_wp2_with (go_at_call 42; ((with_reducible refine (K.out _).mono ?_); rintro e w1 ⟨rfl, hbel⟩; obtain ⟨hcc, hff⟩ := bcell hbel; have hsz := hbel.size; (try simp at hsz); have hF : Below w.heap.size w w1 := (by ((repeat' apply And.intro) <;> first | (simp [go_sem, *]; done) | omega | (repeat' (first | with_reducible exact Below.refl _ _ | with_reducible assumption | ((with_reducible refine Below.drew ?_)) | ((with_reducible refine below_drewN ?_ _)) | ((with_reducible refine Below.alloc ?_ ?_ _); rotate_left; focus (first | omega | (simp; done) | (simp; omega))) | ((with_reducible refine Below.setCell ?_ ?_ _); rotate_left; focus (first | omega | (simp; done) | (simp; omega))) | ((with_reducible refine Below.trans ?_ (Below.mono (by with_reducible assumption) ?_)); rotate_left; focus (first | omega | (simp; done) | (simp; omega))))))); go_split_ands; clear hcc hff hbel))
    (go_ret; refine ⟨?_, ?_⟩; (focus (exact rfl)); ((repeat' (first | with_reducible exact Below.refl _ _ | with_reducible assumption | ((with_reducible refine Below.drew ?_)) | ((with_reducible refine below_drewN ?_ _)) | ((with_reducible refine Below.alloc ?_ ?_ _); rotate_left; focus (first | omega | (simp; done) | (simp; omega))) | ((with_reducible refine Below.setCell ?_ ?_ _); rotate_left; focus (first | omega | (simp; done) | (simp; omega))) | ((with_reducible refine Below.trans ?_ (Below.mono (by with_reducible assumption) ?_)); rotate_left; focus (first | omega | (simp; done) | (simp; omega))))); done))
  · have d0 : decide ((60 : Int) < n) = false := by simp; omega
    have q1 : decide (lm < 1) = false := by simp; omega
    have q2 : decide (16384 < lm) = false := by simp; omega
    have kk := kof_c c1 cd c2 h1 h2 h3
    generalize kind c1 cd c2 = kd at *
    have b2 : (kd == 2) = false := by simpa using h
    have b3 : (kd == 3) = false := by simpa using g
    have b4 : (kd != 2) = true := by rw [bne, b2]; rfl
    have b5 : (kd != 3) = true := by rw [bne, b3]; rfl
    have KK := Lib.hid kk
    clear h g e1 e2 e3 kk h1 h2 h3
    go_enter Try.func8, Try.ntmps8
    go_wp2_with (first | (go_at_call 42; ((with_reducible refine (K.out _).mono ?_); rintro e w1 ⟨rfl, hbel⟩; obtain ⟨hcc, hff⟩ := bcell hbel; have hsz := hbel.size; (try simp at hsz); have hF : Below w.heap.size w w1 := (by ((repeat' apply And.intro) <;> first | (simp [go_sem, *]; done) | omega | (repeat' (first | with_reducible exact Below.refl _ _ | with_reducible assumption | ((with_reducible refine Below.drew ?_)) | ((with_reducible refine below_drewN ?_ _)) | ((with_reducible refine Below.alloc ?_ ?_ _); rotate_left; focus (first | omega | (simp; done) | (simp; omega))) | ((with_reducible refine Below.setCell ?_ ?_ _); rotate_left; focus (first | omega | (simp; done) | (simp; omega))) | ((with_reducible refine Below.trans ?_ (Below.mono (by with_reducible assumption) ?_)); rotate_left; focus (first | omega | (simp; done) | (simp; omega))))))); go_split_ands; clear hcc hff hbel)) | (go_at_call 41; ((with_reducible refine (KK.out _).mono ?_); rintro e w2 ⟨rfl, hbel⟩; obtain ⟨hcc, hff⟩ := bcell hbel; have hsz := hbel.size; (try simp at hsz); have hF : ((w2.cell? ⟨w.heap.size, 0, none⟩ = some (.int .u64 c1) ∧ w2.cell? ⟨w.heap.size, 1, none⟩ = some (.int .u64 cd) ∧ w2.cell? ⟨w.heap.size, 2, none⟩ = some (.int .u64 c2) ∧ w.heap.size < w2.heap.size)) ∧ Below w.heap.size w w2 := (by ((repeat' apply And.intro) <;> first | (simp [go_sem, *]; done) | omega | (repeat' (first | with_reducible exact Below.refl _ _ | with_reducible assumption | ((with_reducible refine Below.drew ?_)) | ((with_reducible refine below_drewN ?_ _)) | ((with_reducible refine Below.alloc ?_ ?_ _); rotate_left; focus (first | omega | (simp; done) | (simp; omega))) | ((with_reducible refine Below.setCell ?_ ?_ _); rotate_left; focus (first | omega | (simp; done) | (simp; omega))) | ((with_reducible refine Below.trans ?_ (Below.mono (by with_reducible assumption) ?_)); rotate_left; focus (first | omega | (simp; done) | (simp; omega))))))); go_split_ands; clear hcc hff hbel)))
    (go_ret; refine ⟨?_, ?_⟩; (focus (exact rfl)); ((repeat' (first | with_reducible exact Below.refl _ _ | with_reducible assumption | ((with_reducible refine Below.drew ?_)) | ((with_reducible refine below_drewN ?_ _)) | ((with_reducible refine Below.alloc ?_ ?_ _); rotate_left; focus (first | omega | (simp; done) | (simp; omega))) | ((with_reducible refine Below.setCell ?_ ?_ _); rotate_left; focus (first | omega | (simp; done) | (simp; omega))) | ((with_reducible refine Below.trans ?_ (Below.mono (by with_reducible assumption) ?_)); rotate_left; focus (first | omega | (simp; done) | (simp; omega))))); done))
set_option maxHeartbeats 8000000 in
theorem bounds_in (c1 cd c2 lm kv : Int) (h1 : In c1) (h2 : In cd) (h3 : In c2) (hkv : kind c1 cd c2 = kv) (hk : kv = 2 ∨ kv = 3) (ls : List Ac) (a : Option Addr) (ce : Nat) (hn : ls.length ≤ 60) (hq : ∀ k (h : k < ls.length), ls[k].wf) (hl0 : 1 ≤ lm) (hl1 : lm ≤ 16384) (w : World) (hR : RwV (fun q : Ac => [Value.int .i64 q.kd, Value.int .i64 q.ln, Value.int .u64 q.tk]) 3 w a ls) :
    Calls Try.prog 8 #[.agg #[.int .u64 (c1), .int .u64 (cd), .int .u64 (c2)], .slice a ls.length ce, .int .i64 lm] w fun e w' => e = .returned (.bool true) ∧ Below w.heap.size w w' := by
  obtain ⟨ie, HI0, HZ0, HZ1, HZ2⟩ := snt_parts
  have hk' : kind c1 cd c2 = 2 ∨ kind c1 cd c2 = 3 := by rw [hkv]; exact hk
  have K := Lib.hid sixty_c
  have AI := Lib.hid act_size
  have PI := Lib.hid snt_size
  have HR := Lib.hid hR
  have HQ := Lib.hid hq
  have HK := Lib.hid hk'
  have d0 : decide ((60 : Int) < ls.length) = false := by simp; omega
  have q1 : decide (lm < 1) = false := by simp; omega
  have q2 : decide (16384 < lm) = false := by simp; omega
  have zr : Rn.ok (⟨false, 0, 0, 0, 0, 0, 0⟩ : Rn) := rn0_ok
  have kw := fun z => wake_c false (⟨false, 0, 0, 0, 0, 0, 0⟩ : Rn) zr 0 c1 cd c2 0 0 h1 h2 h3 (by omega) (by omega) (by unfold In; omega) z
  rw [if_neg (by omega), show wkr false (⟨false, 0, 0, 0, 0, 0, 0⟩ : Rn) (srun true c1 cd c2 0 (0 * 65536)) = srun true c1 cd c2 0 (0 * 65536) from rfl] at kw
  have hU0 := ui_first h1 h2 h3 hk'
  have v0 : hi 0 = 0 := by decide
  have v1 : lo 0 = 0 := by decide
  dsimp only at kw
  rw [v0, v1] at kw
  clear v0 v1
  generalize srun true c1 cd c2 0 (0 * 65536) = r at *
  have HU0 := Lib.hid hU0
  have kk := kof_c c1 cd c2 h1 h2 h3
  rw [hkv] at kk
  generalize hR0 : r.rch (0 * 65536) = t0 at *
  have HR0 := Lib.hid hR0
  have KW := Lib.hid kw
  have HL := Lib.hid (And.intro (And.intro hl0 hl1) (And.intro h1 (And.intro h2 h3)))
  clear kw hU0 hkv hk' hR hq hR0 hl0 hl1 h1 h2 h3 zr
  rcases hk with rfl | rfl
  all_goals
    have KK := Lib.hid kk
    clear kk
    go_enter Try.func8, Try.ntmps8
    go_wp2_with (first
      | (go_at_call 41; ((with_reducible refine (KK.out _).mono ?_); rintro e w1 ⟨rfl, hbel⟩; obtain ⟨hcc, hff⟩ := bcell hbel; have hsz := hbel.size; (try simp at hsz); have hF : ((w1.cell? ⟨w.heap.size, 0, none⟩ = some (.int .u64 c1) ∧ w1.cell? ⟨w.heap.size, 1, none⟩ = some (.int .u64 cd) ∧ w1.cell? ⟨w.heap.size, 2, none⟩ = some (.int .u64 c2) ∧ w.heap.size < w1.heap.size)) ∧ w.heap.size < w1.heap.size ∧ Below w.heap.size w w1 := (by ((repeat' apply And.intro) <;> first | (simp [go_sem, *]; done) | omega | (repeat' (first | with_reducible exact Below.refl _ _ | with_reducible assumption | ((with_reducible refine Below.drew ?_)) | ((with_reducible refine below_drewN ?_ _)) | ((with_reducible refine Below.alloc ?_ ?_ _); rotate_left; focus (first | omega | (simp; done) | (simp; omega))) | ((with_reducible refine Below.setCell ?_ ?_ _); rotate_left; focus (first | omega | (simp; done) | (simp; omega))) | ((with_reducible refine Below.trans ?_ (Below.mono (by with_reducible assumption) ?_)); rotate_left; focus (first | omega | (simp; done) | (simp; omega))))))); go_split_ands; clear hcc hff hbel))
      | (go_at_call 43; ((with_reducible refine (KW.out _).mono ?_); rintro e w2 ⟨rfl, hbel⟩; obtain ⟨hcc, hff⟩ := bcell hbel; have hsz := hbel.size; (try simp at hsz); have hF : ((w2.cell? ⟨w.heap.size, 0, none⟩ = some (.int .u64 c1) ∧ w2.cell? ⟨w.heap.size, 1, none⟩ = some (.int .u64 cd) ∧ w2.cell? ⟨w.heap.size, 2, none⟩ = some (.int .u64 c2) ∧ w.heap.size < w2.heap.size)) ∧ w.heap.size < w2.heap.size ∧ Below w.heap.size w w2 := (by ((repeat' apply And.intro) <;> first | (simp [go_sem, *]; done) | omega | (repeat' (first | with_reducible exact Below.refl _ _ | with_reducible assumption | ((with_reducible refine Below.drew ?_)) | ((with_reducible refine below_drewN ?_ _)) | ((with_reducible refine Below.alloc ?_ ?_ _); rotate_left; focus (first | omega | (simp; done) | (simp; omega))) | ((with_reducible refine Below.setCell ?_ ?_ _); rotate_left; focus (first | omega | (simp; done) | (simp; omega))) | ((with_reducible refine Below.trans ?_ (Below.mono (by with_reducible assumption) ?_)); rotate_left; focus (first | omega | (simp; done) | (simp; omega))))))); go_split_ands; clear hcc hff hbel))
      | (at_builtin; refine wpList_append_own _ rfl _ _ 98 rfl (w2.heap.size + 1) 100 ie (.agg #[.int .u64 0, .int .u64 0]) 2 16 Try.underlying98 HI0 HZ0 HZ1 HZ2 rfl (by decide) (.slice none 0 0) (0) ([]) rfl (World.ownsRow_nil _ _ _ _) ⟨_, 0, none⟩ 1 1 [.int .u64 0, .int .u64 0] rfl rfl ?c1 ?c2 ?c3 ?c4 ?c5 ?_))
    (case c1 => (intro j u hu; rcases j with _ | _ | j <;> simp at hu <;> (try subst hu) <;> simp [Addr.add, go_sem])); (case c2 => (intro u hu; simp at hu; rcases hu with rfl | rfl <;> rfl)); (case c3 => (unfold maxLen; omega)); (case c4 => omega); (case c5 => (first | (simp; done) | (simp; omega) | omega))
    intro v' w5 hown' hgrow _
    have hb5 := Below.grown (Below.refl (w2.heap.size + 1) _) hgrow (by first | (simp; done) | (simp; omega) | omega) (fun k hk => by cases hk)
    obtain ⟨hcc, hff⟩ := bcellB hb5
    have x1 : w.heap.size ≤ w2.heap.size := by omega
    have x3 : w.heap.size < w2.heap.size := by omega
    have x2 : w2.heap.size < w2.heap.size + 1 := by omega
    have hsz := hb5.size
    (try simp at hsz)
    have hBW : Below w.heap.size w w5 := Below.grown (by repeat' (first | with_reducible exact Below.refl _ _ | with_reducible assumption | ((with_reducible refine Below.drew ?_)) | ((with_reducible refine below_drewN ?_ _)) | ((with_reducible refine Below.alloc ?_ ?_ _); rotate_left; focus (first | omega | (simp; done) | (simp; omega))) | ((with_reducible refine Below.setCell ?_ ?_ _); rotate_left; focus (first | omega | (simp; done) | (simp; omega))) | ((with_reducible refine Below.trans ?_ (Below.mono (by with_reducible assumption) ?_)); rotate_left; focus (first | omega | (simp; done) | (simp; omega))))) hgrow (by first | (simp; done) | (simp; omega) | omega) (fun k hk => by cases hk)
    have hF : (w5.cell? ⟨w2.heap.size, 0, none⟩ = some (.bool true) ∧ w5.cell? ⟨w2.heap.size, 1, none⟩ = some (.int .u64 (r).x1) ∧ w5.cell? ⟨w2.heap.size, 2, none⟩ = some (.int .u64 (hi (r).y1)) ∧ w5.cell? ⟨w2.heap.size, 3, none⟩ = some (.int .u64 (lo (r).y1)) ∧ w5.cell? ⟨w2.heap.size, 4, none⟩ = some (.int .u64 (r).m1) ∧ w5.cell? ⟨w2.heap.size, 5, none⟩ = some (.int .u64 (r).x2) ∧ w5.cell? ⟨w2.heap.size, 6, none⟩ = some (.int .u64 (hi (r).y2)) ∧ w5.cell? ⟨w2.heap.size, 7, none⟩ = some (.int .u64 (lo (r).y2)) ∧ w5.cell? ⟨w2.heap.size, 8, none⟩ = some (.int .u64 (r).m2) ∧ w5.cell? ⟨w2.heap.size, 9, none⟩ = some (.bool (r).b) ∧ w5.cell? ⟨w2.heap.size, 10, none⟩ = some (.int .u64 (t0)) ∧ w2.heap.size < w5.heap.size) ∧ (w5.frozen? ⟨w2.heap.size, 0, none⟩ = false ∧ w5.frozen? ⟨w2.heap.size, 1, none⟩ = false ∧ w5.frozen? ⟨w2.heap.size, 2, none⟩ = false ∧ w5.frozen? ⟨w2.heap.size, 3, none⟩ = false ∧ w5.frozen? ⟨w2.heap.size, 4, none⟩ = false ∧ w5.frozen? ⟨w2.heap.size, 5, none⟩ = false ∧ w5.frozen? ⟨w2.heap.size, 6, none⟩ = false ∧ w5.frozen? ⟨w2.heap.size, 7, none⟩ = false ∧ w5.frozen? ⟨w2.heap.size, 8, none⟩ = false ∧ w5.frozen? ⟨w2.heap.size, 9, none⟩ = false ∧ w5.frozen? ⟨w2.heap.size, 10, none⟩ = false) ∧ ((w5.cell? ⟨w.heap.size, 0, none⟩ = some (.int .u64 c1) ∧ w5.cell? ⟨w.heap.size, 1, none⟩ = some (.int .u64 cd) ∧ w5.cell? ⟨w.heap.size, 2, none⟩ = some (.int .u64 c2) ∧ w.heap.size < w5.heap.size)) ∧ w2.heap.size + 1 ≤ w5.heap.size := by ((repeat' apply And.intro) <;> first | (simp [go_sem, *]; done) | omega | (repeat' (first | with_reducible exact Below.refl _ _ | with_reducible assumption | ((with_reducible refine Below.drew ?_)) | ((with_reducible refine below_drewN ?_ _)) | ((with_reducible refine Below.alloc ?_ ?_ _); rotate_left; focus (first | omega | (simp; done) | (simp; omega))) | ((with_reducible refine Below.setCell ?_ ?_ _); rotate_left; focus (first | omega | (simp; done) | (simp; omega))) | ((with_reducible refine Below.trans ?_ (Below.mono (by with_reducible assumption) ?_)); rotate_left; focus (first | omega | (simp; done) | (simp; omega))))))
    clear hcc hff hsz hb5 hgrow
    obtain ⟨X, hX⟩ : ∃ X, w2.heap.size = X := ⟨_, rfl⟩
    rw [hX] at hF hown' ⊢
    have hwX : w.heap.size < X := by omega
    clear hX
    have HO5 := Lib.hid (show w5.ownsRow (X + 1) 100 2 v' 1 ([(0, 0)].flatMap (fun q : Int × Int => [Value.int .u64 q.1, Value.int .u64 q.2])) by simpa using hown')
    clear hown'
    go_wp2_with fail
    go_loopw [7, 8, 10, 48] (fun nw tt wv ii wr => ∃ (k : Nat) (now tot : Int) (ws : List (Int × Int)) (r : Rn) (t : Int), k ≤ ls.length ∧ ii = .int .i64 k ∧ nw = .int .u64 now ∧ tt = .int .u64 tot ∧ ((0 ≤ now ∧ now ≤ k * 1099511627776) ∧ (0 ≤ tot ∧ tot ≤ k * 16384) ∧ ws.length ≤ k + 1) ∧ UI c1 cd c2 now tot r ws ∧ r.rch (tot * 65536) = t ∧ (((wr.cell? ⟨X, 0, none⟩ = some (.bool true) ∧ wr.cell? ⟨X, 1, none⟩ = some (.int .u64 (r).x1) ∧ wr.cell? ⟨X, 2, none⟩ = some (.int .u64 (hi (r).y1)) ∧ wr.cell? ⟨X, 3, none⟩ = some (.int .u64 (lo (r).y1)) ∧ wr.cell? ⟨X, 4, none⟩ = some (.int .u64 (r).m1) ∧ wr.cell? ⟨X, 5, none⟩ = some (.int .u64 (r).x2) ∧ wr.cell? ⟨X, 6, none⟩ = some (.int .u64 (hi (r).y2)) ∧ wr.cell? ⟨X, 7, none⟩ = some (.int .u64 (lo (r).y2)) ∧ wr.cell? ⟨X, 8, none⟩ = some (.int .u64 (r).m2) ∧ wr.cell? ⟨X, 9, none⟩ = some (.bool (r).b) ∧ wr.cell? ⟨X, 10, none⟩ = some (.int .u64 (t)) ∧ X < wr.heap.size) ∧ (wr.frozen? ⟨X, 0, none⟩ = false ∧ wr.frozen? ⟨X, 1, none⟩ = false ∧ wr.frozen? ⟨X, 2, none⟩ = false ∧ wr.frozen? ⟨X, 3, none⟩ = false ∧ wr.frozen? ⟨X, 4, none⟩ = false ∧ wr.frozen? ⟨X, 5, none⟩ = false ∧ wr.frozen? ⟨X, 6, none⟩ = false ∧ wr.frozen? ⟨X, 7, none⟩ = false ∧ wr.frozen? ⟨X, 8, none⟩ = false ∧ wr.frozen? ⟨X, 9, none⟩ = false ∧ wr.frozen? ⟨X, 10, none⟩ = false) ∧ ((wr.cell? ⟨w.heap.size, 0, none⟩ = some (.int .u64 c1) ∧ wr.cell? ⟨w.heap.size, 1, none⟩ = some (.int .u64 cd) ∧ wr.cell? ⟨w.heap.size, 2, none⟩ = some (.int .u64 c2) ∧ w.heap.size < wr.heap.size)) ∧ X + 1 ≤ wr.heap.size ∧ Below w.heap.size w wr)) ∧ wr.ownsRow (X + 1) 100 2 wv ws.length (ws.flatMap (fun q : Int × Int => [Value.int .u64 q.1, Value.int .u64 q.2]))) (fun _ _ _ ii _ => ls.length - (intOf ii).toNat)
    case atStart => exact ⟨0, 0, 0, [(0, 0)], r, t0, Nat.zero_le _, rfl, rfl, rfl, ⟨by omega, by omega, by simp⟩, HU0.out, HR0.out, ⟨hF.1, hF.2.1, hF.2.2.1, hF.2.2.2, hBW⟩, HO5.out⟩
    case round =>
      clear hF hBW HO5 HU0 HR0 KW KK
      obtain ⟨k, now, tot, ws, r, t, hk, rfl, rfl, rfl, ⟨⟨n0, n1⟩, ⟨t1, t2⟩, wl⟩, hU, hrt, ⟨hch, hcf, hcb, hxs, hB⟩, hO⟩ := hrel
      have HU := Lib.hid hU
      have HO := Lib.hid hO
      have HT := Lib.hid hrt
      have HOB := Lib.hid (fun k hk => (hO.lt k hk).1)
      obtain ⟨ao, cap, rfl⟩ := row_form hO
      clear hU hO hrt
      have hbs := hB.size
      by_cases hlt : k < ls.length
      · obtain ⟨b, o, rfl, hbl, hr⟩ := (HR.out.below hB) k hlt
        have hqk := HQ.out k hlt
        generalize ls[k] = q at hr hqk
        obtain ⟨kd, ln, tk⟩ := q
        obtain ⟨l0, l1, g0, g1⟩ := hqk
        dsimp only at l0 l1 g0 g1
        change wr.rangeAt b (o + k * 3) [.int .i64 kd, .int .i64 ln, .int .u64 tk] at hr
        have tm : tk.tmod 1099511627776 = tk % 1099511627776 := Int.tmod_eq_emod_of_nonneg g0
        have a0 : 0 ≤ tk % 1099511627776 ∧ tk % 1099511627776 < 1099511627776 := by omega
        generalize tk % 1099511627776 = A at tm a0
        have wA : IntKind.u64.wrap A = A := by rw [wrap_u64]; omega
        have wN : IntKind.u64.wrap (now + A) = now + A := by rw [wrap_u64]; omega
        obtain ⟨NT, hNT⟩ : ∃ NT, now + A = NT := ⟨_, rfl⟩
        rw [hNT] at wN
        have hUN := ui_on HU.out (show now ≤ NT by omega) (Int.le_refl tot)
        have hn62 : NT < 4611686018427387904 := by omega
        have n2 : 0 ≤ NT ∧ NT ≤ ((k : Int) + 1) * 1099511627776 := by omega
        obtain ⟨⟨hl0, hl1⟩, h1, h2, h3⟩ := HL.out
        by_cases hkd : kd = 0
        · have e1 : (kd == 0) = true := by simpa using hkd
          have hW := ui_wake h1 h2 h3 HK.out n2.1 (by omega) t1 (by omega) hUN
          have kw := fun z => wake_c true r HU.out.sm.ok t c1 cd c2 NT tot h1 h2 h3 n2.1 (by omega) (by unfold In; omega) z
          rw [if_neg (by have := HK.out; omega), show wkr true r (srun true c1 cd c2 NT (tot * 65536)) = r.meet (srun true c1 cd c2 NT (tot * 65536)) from rfl] at kw
          generalize r.meet (srun true c1 cd c2 NT (tot * 65536)) = r' at *
          generalize ht' : r'.rch (tot * 65536) = t' at *
          have KW := Lib.hid kw
          have HW := Lib.hid (And.intro hW ht')
          have HN := Lib.hid (And.intro n2 hn62)
          clear kw hW ht' hUN hkd h1 h2 h3 hl0 hl1 n2 hn62 g0 g1 l0 l1
          go_wp2_with (first | (refine wpList_load_mid rfl 102 _ rfl b (o + k * 3) rfl _ _ hr Try.underlying102 rfl AI.out ?_) | (at_builtin; refine wpList_append_own _ rfl _ _ 98 rfl (X + 1) 100 ie (.agg #[.int .u64 0, .int .u64 0]) 2 16 Try.underlying98 HI0 HZ0 HZ1 HZ2 rfl (by decide) (_) (ws.length) ((ws.flatMap (fun q : Int × Int => [Value.int .u64 q.1, Value.int .u64 q.2]))) rfl (HO.out.alloc _ |>.alloc _) ⟨_, 0, none⟩ 1 1 [.int .u64 NT, .int .u64 tot] rfl rfl ?c1 ?c2 ?c3 ?c4 ?c5 ?_))
          (case c1 => (intro j u hu; rcases j with _ | _ | j <;> simp at hu <;> (try subst hu) <;> simp [Addr.add, go_sem])); (case c2 => (intro u hu; simp at hu; rcases hu with rfl | rfl <;> rfl)); (case c3 => (unfold maxLen; omega)); (case c4 => omega); (case c5 => (first | (simp; done) | (simp; omega) | omega))
          intro v' w9 hown' hgrow _
          have hb9 := Below.grown (Below.refl (X + 1) _) hgrow (by first | (simp; done) | (simp; omega) | omega) HOB.out
          obtain ⟨hcc, hff⟩ := bcellB hb9
          have x1 : w.heap.size ≤ X := by omega
          have x3 : w.heap.size < wr.heap.size := by omega
          have x4 : X < wr.heap.size := by omega
          have x2 : X < X + 1 := by omega
          have hsz := hb9.size
          (try simp at hsz)
          have hB9 : Below w.heap.size w w9 := Below.grown (by repeat' (first | with_reducible exact Below.refl _ _ | with_reducible assumption | ((with_reducible refine Below.drew ?_)) | ((with_reducible refine below_drewN ?_ _)) | ((with_reducible refine Below.alloc ?_ ?_ _); rotate_left; focus (first | omega | (simp; done) | (simp; omega))) | ((with_reducible refine Below.setCell ?_ ?_ _); rotate_left; focus (first | omega | (simp; done) | (simp; omega))) | ((with_reducible refine Below.trans ?_ (Below.mono (by with_reducible assumption) ?_)); rotate_left; focus (first | omega | (simp; done) | (simp; omega))))) hgrow (by first | (simp; done) | (simp; omega) | omega) (fun k hk => by have := HOB.out k hk; omega)
          have hF9 : (w9.cell? ⟨X, 0, none⟩ = some (.bool true) ∧ w9.cell? ⟨X, 1, none⟩ = some (.int .u64 (r).x1) ∧ w9.cell? ⟨X, 2, none⟩ = some (.int .u64 (hi (r).y1)) ∧ w9.cell? ⟨X, 3, none⟩ = some (.int .u64 (lo (r).y1)) ∧ w9.cell? ⟨X, 4, none⟩ = some (.int .u64 (r).m1) ∧ w9.cell? ⟨X, 5, none⟩ = some (.int .u64 (r).x2) ∧ w9.cell? ⟨X, 6, none⟩ = some (.int .u64 (hi (r).y2)) ∧ w9.cell? ⟨X, 7, none⟩ = some (.int .u64 (lo (r).y2)) ∧ w9.cell? ⟨X, 8, none⟩ = some (.int .u64 (r).m2) ∧ w9.cell? ⟨X, 9, none⟩ = some (.bool (r).b) ∧ w9.cell? ⟨X, 10, none⟩ = some (.int .u64 (t)) ∧ X < w9.heap.size) ∧ (w9.frozen? ⟨X, 0, none⟩ = false ∧ w9.frozen? ⟨X, 1, none⟩ = false ∧ w9.frozen? ⟨X, 2, none⟩ = false ∧ w9.frozen? ⟨X, 3, none⟩ = false ∧ w9.frozen? ⟨X, 4, none⟩ = false ∧ w9.frozen? ⟨X, 5, none⟩ = false ∧ w9.frozen? ⟨X, 6, none⟩ = false ∧ w9.frozen? ⟨X, 7, none⟩ = false ∧ w9.frozen? ⟨X, 8, none⟩ = false ∧ w9.frozen? ⟨X, 9, none⟩ = false ∧ w9.frozen? ⟨X, 10, none⟩ = false) ∧ ((w9.cell? ⟨w.heap.size, 0, none⟩ = some (.int .u64 c1) ∧ w9.cell? ⟨w.heap.size, 1, none⟩ = some (.int .u64 cd) ∧ w9.cell? ⟨w.heap.size, 2, none⟩ = some (.int .u64 c2) ∧ w.heap.size < w9.heap.size)) ∧ X + 1 ≤ w9.heap.size := by ((repeat' apply And.intro) <;> first | (simp [go_sem, *]; done) | omega | (repeat' (first | with_reducible exact Below.refl _ _ | with_reducible assumption | ((with_reducible refine Below.drew ?_)) | ((with_reducible refine below_drewN ?_ _)) | ((with_reducible refine Below.alloc ?_ ?_ _); rotate_left; focus (first | omega | (simp; done) | (simp; omega))) | ((with_reducible refine Below.setCell ?_ ?_ _); rotate_left; focus (first | omega | (simp; done) | (simp; omega))) | ((with_reducible refine Below.trans ?_ (Below.mono (by with_reducible assumption) ?_)); rotate_left; focus (first | omega | (simp; done) | (simp; omega))))))
          clear hcc hff hsz hb9 hgrow hch hcf hcb
          have HO9 := Lib.hid (show w9.ownsRow (X + 1) 100 2 v' (ws ++ [(NT, tot)]).length ((ws ++ [(NT, tot)]).flatMap (fun q : Int × Int => [Value.int .u64 q.1, Value.int .u64 q.2])) by rw [List.length_append, List.flatMap_append]; simpa using hown')
          clear hown'
          go_split_ands
          go_wp2_with (go_at_call 43; (with_reducible refine (KW.out _).mono ?_); rintro ee w10 ⟨rfl, hbel⟩; have hO10 := Lib.hid (row_bel HO9.out hbel); obtain ⟨hcc, hff⟩ := bcell hbel; have hsz := hbel.size; (try simp at hsz); have hF : (w10.cell? ⟨X, 0, none⟩ = some (.bool true) ∧ w10.cell? ⟨X, 1, none⟩ = some (.int .u64 (r).x1) ∧ w10.cell? ⟨X, 2, none⟩ = some (.int .u64 (hi (r).y1)) ∧ w10.cell? ⟨X, 3, none⟩ = some (.int .u64 (lo (r).y1)) ∧ w10.cell? ⟨X, 4, none⟩ = some (.int .u64 (r).m1) ∧ w10.cell? ⟨X, 5, none⟩ = some (.int .u64 (r).x2) ∧ w10.cell? ⟨X, 6, none⟩ = some (.int .u64 (hi (r).y2)) ∧ w10.cell? ⟨X, 7, none⟩ = some (.int .u64 (lo (r).y2)) ∧ w10.cell? ⟨X, 8, none⟩ = some (.int .u64 (r).m2) ∧ w10.cell? ⟨X, 9, none⟩ = some (.bool (r).b) ∧ w10.cell? ⟨X, 10, none⟩ = some (.int .u64 (t)) ∧ X < w10.heap.size) ∧ (w10.frozen? ⟨X, 0, none⟩ = false ∧ w10.frozen? ⟨X, 1, none⟩ = false ∧ w10.frozen? ⟨X, 2, none⟩ = false ∧ w10.frozen? ⟨X, 3, none⟩ = false ∧ w10.frozen? ⟨X, 4, none⟩ = false ∧ w10.frozen? ⟨X, 5, none⟩ = false ∧ w10.frozen? ⟨X, 6, none⟩ = false ∧ w10.frozen? ⟨X, 7, none⟩ = false ∧ w10.frozen? ⟨X, 8, none⟩ = false ∧ w10.frozen? ⟨X, 9, none⟩ = false ∧ w10.frozen? ⟨X, 10, none⟩ = false) ∧ ((w10.cell? ⟨w.heap.size, 0, none⟩ = some (.int .u64 c1) ∧ w10.cell? ⟨w.heap.size, 1, none⟩ = some (.int .u64 cd) ∧ w10.cell? ⟨w.heap.size, 2, none⟩ = some (.int .u64 c2) ∧ w.heap.size < w10.heap.size)) ∧ X + 1 ≤ w10.heap.size ∧ Below w.heap.size w w10 := (by ((repeat' apply And.intro) <;> first | (simp [go_sem, *]; done) | omega | (repeat' (first | with_reducible exact Below.refl _ _ | with_reducible assumption | ((with_reducible refine Below.drew ?_)) | ((with_reducible refine below_drewN ?_ _)) | ((with_reducible refine Below.alloc ?_ ?_ _); rotate_left; focus (first | omega | (simp; done) | (simp; omega))) | ((with_reducible refine Below.setCell ?_ ?_ _); rotate_left; focus (first | omega | (simp; done) | (simp; omega))) | ((with_reducible refine Below.trans ?_ (Below.mono (by with_reducible assumption) ?_)); rotate_left; focus (first | omega | (simp; done) | (simp; omega))))))); go_split_ands; clear hcc hff hbel)
          go_roundw
          case rel =>
            first
              | refine ⟨k + 1, NT, tot, ws ++ [(NT, tot)], r', t', by omega, by go_num, rfl, rfl, ⟨by have := HN.out.1; omega, by omega, by simp; omega⟩, HW.out.1, HW.out.2, ⟨?_, ?_, ?_, ?_, ?_⟩, ?_⟩
              | ((repeat apply Exists.intro); refine ⟨⟨k + 1, NT, tot, ws ++ [(NT, tot)], r', t', by omega, by go_num, rfl, rfl, ⟨by have := HN.out.1; omega, by omega, by simp; omega⟩, HW.out.1, HW.out.2, ⟨?_, ?_, ?_, ?_, ?_⟩, ?_⟩, rfl⟩)
            · ((repeat' apply And.intro) <;> first | (simp [go_sem, *]; done) | omega | (repeat' (first | with_reducible exact Below.refl _ _ | with_reducible assumption | ((with_reducible refine Below.drew ?_)) | ((with_reducible refine below_drewN ?_ _)) | ((with_reducible refine Below.alloc ?_ ?_ _); rotate_left; focus (first | omega | (simp; done) | (simp; omega))) | ((with_reducible refine Below.setCell ?_ ?_ _); rotate_left; focus (first | omega | (simp; done) | (simp; omega))) | ((with_reducible refine Below.trans ?_ (Below.mono (by with_reducible assumption) ?_)); rotate_left; focus (first | omega | (simp; done) | (simp; omega))))))
            · ((repeat' apply And.intro) <;> first | (simp [go_sem, *]; done) | omega | (repeat' (first | with_reducible exact Below.refl _ _ | with_reducible assumption | ((with_reducible refine Below.drew ?_)) | ((with_reducible refine below_drewN ?_ _)) | ((with_reducible refine Below.alloc ?_ ?_ _); rotate_left; focus (first | omega | (simp; done) | (simp; omega))) | ((with_reducible refine Below.setCell ?_ ?_ _); rotate_left; focus (first | omega | (simp; done) | (simp; omega))) | ((with_reducible refine Below.trans ?_ (Below.mono (by with_reducible assumption) ?_)); rotate_left; focus (first | omega | (simp; done) | (simp; omega))))))
            · ((repeat' apply And.intro) <;> first | (simp [go_sem, *]; done) | omega | (repeat' (first | with_reducible exact Below.refl _ _ | with_reducible assumption | ((with_reducible refine Below.drew ?_)) | ((with_reducible refine below_drewN ?_ _)) | ((with_reducible refine Below.alloc ?_ ?_ _); rotate_left; focus (first | omega | (simp; done) | (simp; omega))) | ((with_reducible refine Below.setCell ?_ ?_ _); rotate_left; focus (first | omega | (simp; done) | (simp; omega))) | ((with_reducible refine Below.trans ?_ (Below.mono (by with_reducible assumption) ?_)); rotate_left; focus (first | omega | (simp; done) | (simp; omega))))))
            · simp; omega
            · ((repeat' (first | with_reducible exact Below.refl _ _ | with_reducible assumption | ((with_reducible refine Below.drew ?_)) | ((with_reducible refine below_drewN ?_ _)) | ((with_reducible refine Below.alloc ?_ ?_ _); rotate_left; focus (first | omega | (simp; done) | (simp; omega))) | ((with_reducible refine Below.setCell ?_ ?_ _); rotate_left; focus (first | omega | (simp; done) | (simp; omega))) | ((with_reducible refine Below.trans ?_ (Below.mono (by with_reducible assumption) ?_)); rotate_left; focus (first | omega | (simp; done) | (simp; omega))))); done)
            · (repeat (first | with_reducible exact hO10.out | with_reducible refine own_setX ?_ _ _))
          case measure => simp [intOf]; omega
        · have e1 : (kd == 0) = false := by simpa using hkd
          by_cases hgo : ln < 1 ∨ (1 ≤ ln ∧ lm < ln) ∨ (1 ≤ ln ∧ ln ≤ lm ∧ NT < t)
          · have HUN := Lib.hid hUN
            have HN := Lib.hid (And.intro n2 hn62)
            have HOA := Lib.hid (fun o1 => HO.out.alloc o1)
            rcases hgo with hgo | ⟨hg1, hgo⟩ | ⟨hg1, hg2, hgo⟩
            · have e2 : decide (ln < 1) = true := by simpa using hgo
              clear hUN hkd h1 h2 h3 hl0 hl1 n2 hn62 g0 g1 l0 l1 hgo
              go_wp2_with (refine wpList_load_mid rfl 102 _ rfl b (o + k * 3) rfl _ _ hr Try.underlying102 rfl AI.out ?_)
              go_roundw
              case rel =>
                first
                  | refine ⟨k + 1, NT, tot, ws, r, t, by omega, by go_num, rfl, rfl, ⟨by have := HN.out.1; omega, by omega, by omega⟩, HUN.out, HT.out, ⟨?_, ?_, ?_, ?_, ?_⟩, HOA.out _⟩
                  | ((repeat apply Exists.intro); refine ⟨⟨k + 1, NT, tot, ws, r, t, by omega, by go_num, rfl, rfl, ⟨by have := HN.out.1; omega, by omega, by omega⟩, HUN.out, HT.out, ⟨?_, ?_, ?_, ?_, ?_⟩, HOA.out _⟩, rfl⟩)
                · ((repeat' apply And.intro) <;> first | (simp [go_sem, *]; done) | omega | (repeat' (first | with_reducible exact Below.refl _ _ | with_reducible assumption | ((with_reducible refine Below.drew ?_)) | ((with_reducible refine below_drewN ?_ _)) | ((with_reducible refine Below.alloc ?_ ?_ _); rotate_left; focus (first | omega | (simp; done) | (simp; omega))) | ((with_reducible refine Below.setCell ?_ ?_ _); rotate_left; focus (first | omega | (simp; done) | (simp; omega))) | ((with_reducible refine Below.trans ?_ (Below.mono (by with_reducible assumption) ?_)); rotate_left; focus (first | omega | (simp; done) | (simp; omega))))))
                · ((repeat' apply And.intro) <;> first | (simp [go_sem, *]; done) | omega | (repeat' (first | with_reducible exact Below.refl _ _ | with_reducible assumption | ((with_reducible refine Below.drew ?_)) | ((with_reducible refine below_drewN ?_ _)) | ((with_reducible refine Below.alloc ?_ ?_ _); rotate_left; focus (first | omega | (simp; done) | (simp; omega))) | ((with_reducible refine Below.setCell ?_ ?_ _); rotate_left; focus (first | omega | (simp; done) | (simp; omega))) | ((with_reducible refine Below.trans ?_ (Below.mono (by with_reducible assumption) ?_)); rotate_left; focus (first | omega | (simp; done) | (simp; omega))))))
                · ((repeat' apply And.intro) <;> first | (simp [go_sem, *]; done) | omega | (repeat' (first | with_reducible exact Below.refl _ _ | with_reducible assumption | ((with_reducible refine Below.drew ?_)) | ((with_reducible refine below_drewN ?_ _)) | ((with_reducible refine Below.alloc ?_ ?_ _); rotate_left; focus (first | omega | (simp; done) | (simp; omega))) | ((with_reducible refine Below.setCell ?_ ?_ _); rotate_left; focus (first | omega | (simp; done) | (simp; omega))) | ((with_reducible refine Below.trans ?_ (Below.mono (by with_reducible assumption) ?_)); rotate_left; focus (first | omega | (simp; done) | (simp; omega))))))
                · simp; omega
                · ((repeat' (first | with_reducible exact Below.refl _ _ | with_reducible assumption | ((with_reducible refine Below.drew ?_)) | ((with_reducible refine below_drewN ?_ _)) | ((with_reducible refine Below.alloc ?_ ?_ _); rotate_left; focus (first | omega | (simp; done) | (simp; omega))) | ((with_reducible refine Below.setCell ?_ ?_ _); rotate_left; focus (first | omega | (simp; done) | (simp; omega))) | ((with_reducible refine Below.trans ?_ (Below.mono (by with_reducible assumption) ?_)); rotate_left; focus (first | omega | (simp; done) | (simp; omega))))); done)
              case measure => simp [intOf]; omega
            · have e2 : decide (ln < 1) = false := by simp; omega
              have e3 : decide (lm < ln) = true := by simpa using hgo
              clear hUN hkd h1 h2 h3 hl0 hl1 n2 hn62 g0 g1 l0 l1 hgo hg1
              go_wp2_with (refine wpList_load_mid rfl 102 _ rfl b (o + k * 3) rfl _ _ hr Try.underlying102 rfl AI.out ?_)
              go_roundw
              case rel =>
                first
                  | refine ⟨k + 1, NT, tot, ws, r, t, by omega, by go_num, rfl, rfl, ⟨by have := HN.out.1; omega, by omega, by omega⟩, HUN.out, HT.out, ⟨?_, ?_, ?_, ?_, ?_⟩, HOA.out _⟩
                  | ((repeat apply Exists.intro); refine ⟨⟨k + 1, NT, tot, ws, r, t, by omega, by go_num, rfl, rfl, ⟨by have := HN.out.1; omega, by omega, by omega⟩, HUN.out, HT.out, ⟨?_, ?_, ?_, ?_, ?_⟩, HOA.out _⟩, rfl⟩)
                · ((repeat' apply And.intro) <;> first | (simp [go_sem, *]; done) | omega | (repeat' (first | with_reducible exact Below.refl _ _ | with_reducible assumption | ((with_reducible refine Below.drew ?_)) | ((with_reducible refine below_drewN ?_ _)) | ((with_reducible refine Below.alloc ?_ ?_ _); rotate_left; focus (first | omega | (simp; done) | (simp; omega))) | ((with_reducible refine Below.setCell ?_ ?_ _); rotate_left; focus (first | omega | (simp; done) | (simp; omega))) | ((with_reducible refine Below.trans ?_ (Below.mono (by with_reducible assumption) ?_)); rotate_left; focus (first | omega | (simp; done) | (simp; omega))))))
                · ((repeat' apply And.intro) <;> first | (simp [go_sem, *]; done) | omega | (repeat' (first | with_reducible exact Below.refl _ _ | with_reducible assumption | ((with_reducible refine Below.drew ?_)) | ((with_reducible refine below_drewN ?_ _)) | ((with_reducible refine Below.alloc ?_ ?_ _); rotate_left; focus (first | omega | (simp; done) | (simp; omega))) | ((with_reducible refine Below.setCell ?_ ?_ _); rotate_left; focus (first | omega | (simp; done) | (simp; omega))) | ((with_reducible refine Below.trans ?_ (Below.mono (by with_reducible assumption) ?_)); rotate_left; focus (first | omega | (simp; done) | (simp; omega))))))
                · ((repeat' apply And.intro) <;> first | (simp [go_sem, *]; done) | omega | (repeat' (first | with_reducible exact Below.refl _ _ | with_reducible assumption | ((with_reducible refine Below.drew ?_)) | ((with_reducible refine below_drewN ?_ _)) | ((with_reducible refine Below.alloc ?_ ?_ _); rotate_left; focus (first | omega | (simp; done) | (simp; omega))) | ((with_reducible refine Below.setCell ?_ ?_ _); rotate_left; focus (first | omega | (simp; done) | (simp; omega))) | ((with_reducible refine Below.trans ?_ (Below.mono (by with_reducible assumption) ?_)); rotate_left; focus (first | omega | (simp; done) | (simp; omega))))))
                · simp; omega
                · ((repeat' (first | with_reducible exact Below.refl _ _ | with_reducible assumption | ((with_reducible refine Below.drew ?_)) | ((with_reducible refine below_drewN ?_ _)) | ((with_reducible refine Below.alloc ?_ ?_ _); rotate_left; focus (first | omega | (simp; done) | (simp; omega))) | ((with_reducible refine Below.setCell ?_ ?_ _); rotate_left; focus (first | omega | (simp; done) | (simp; omega))) | ((with_reducible refine Below.trans ?_ (Below.mono (by with_reducible assumption) ?_)); rotate_left; focus (first | omega | (simp; done) | (simp; omega))))); done)
              case measure => simp [intOf]; omega
            · have e2 : decide (ln < 1) = false := by simp; omega
              have e3 : decide (lm < ln) = false := by simp; omega
              have e4 : decide (NT < t) = true := by simpa using hgo
              clear hUN hkd h1 h2 h3 hl0 hl1 n2 hn62 g0 g1 l0 l1 hgo hg1 hg2
              go_wp2_with (refine wpList_load_mid rfl 102 _ rfl b (o + k * 3) rfl _ _ hr Try.underlying102 rfl AI.out ?_)
              go_roundw
              case rel =>
                first
                  | refine ⟨k + 1, NT, tot, ws, r, t, by omega, by go_num, rfl, rfl, ⟨by have := HN.out.1; omega, by omega, by omega⟩, HUN.out, HT.out, ⟨?_, ?_, ?_, ?_, ?_⟩, HOA.out _⟩
                  | ((repeat apply Exists.intro); refine ⟨⟨k + 1, NT, tot, ws, r, t, by omega, by go_num, rfl, rfl, ⟨by have := HN.out.1; omega, by omega, by omega⟩, HUN.out, HT.out, ⟨?_, ?_, ?_, ?_, ?_⟩, HOA.out _⟩, rfl⟩)
                · ((repeat' apply And.intro) <;> first | (simp [go_sem, *]; done) | omega | (repeat' (first | with_reducible exact Below.refl _ _ | with_reducible assumption | ((with_reducible refine Below.drew ?_)) | ((with_reducible refine below_drewN ?_ _)) | ((with_reducible refine Below.alloc ?_ ?_ _); rotate_left; focus (first | omega | (simp; done) | (simp; omega))) | ((with_reducible refine Below.setCell ?_ ?_ _); rotate_left; focus (first | omega | (simp; done) | (simp; omega))) | ((with_reducible refine Below.trans ?_ (Below.mono (by with_reducible assumption) ?_)); rotate_left; focus (first | omega | (simp; done) | (simp; omega))))))
                · ((repeat' apply And.intro) <;> first | (simp [go_sem, *]; done) | omega | (repeat' (first | with_reducible exact Below.refl _ _ | with_reducible assumption | ((with_reducible refine Below.drew ?_)) | ((with_reducible refine below_drewN ?_ _)) | ((with_reducible refine Below.alloc ?_ ?_ _); rotate_left; focus (first | omega | (simp; done) | (simp; omega))) | ((with_reducible refine Below.setCell ?_ ?_ _); rotate_left; focus (first | omega | (simp; done) | (simp; omega))) | ((with_reducible refine Below.trans ?_ (Below.mono (by with_reducible assumption) ?_)); rotate_left; focus (first | omega | (simp; done) | (simp; omega))))))
                · ((repeat' apply And.intro) <;> first | (simp [go_sem, *]; done) | omega | (repeat' (first | with_reducible exact Below.refl _ _ | with_reducible assumption | ((with_reducible refine Below.drew ?_)) | ((with_reducible refine below_drewN ?_ _)) | ((with_reducible refine Below.alloc ?_ ?_ _); rotate_left; focus (first | omega | (simp; done) | (simp; omega))) | ((with_reducible refine Below.setCell ?_ ?_ _); rotate_left; focus (first | omega | (simp; done) | (simp; omega))) | ((with_reducible refine Below.trans ?_ (Below.mono (by with_reducible assumption) ?_)); rotate_left; focus (first | omega | (simp; done) | (simp; omega))))))
                · simp; omega
                · ((repeat' (first | with_reducible exact Below.refl _ _ | with_reducible assumption | ((with_reducible refine Below.drew ?_)) | ((with_reducible refine below_drewN ?_ _)) | ((with_reducible refine Below.alloc ?_ ?_ _); rotate_left; focus (first | omega | (simp; done) | (simp; omega))) | ((with_reducible refine Below.setCell ?_ ?_ _); rotate_left; focus (first | omega | (simp; done) | (simp; omega))) | ((with_reducible refine Below.trans ?_ (Below.mono (by with_reducible assumption) ?_)); rotate_left; focus (first | omega | (simp; done) | (simp; omega))))); done)
              case measure => simp [intOf]; omega
          · have e2 : decide (ln < 1) = false := by simp; omega
            have e3 : decide (lm < ln) = false := by simp; omega
            have e4 : decide (NT < t) = false := by simp; omega
            have wl2 : IntKind.u64.wrap ln = ln := by rw [wrap_u64]; omega
            have wT : IntKind.u64.wrap (tot + ln) = tot + ln := by rw [wrap_u64]; omega
            have hpk := ui_pick HU.out.sm.ok n2.1 hn62 t1 hUN (by rw [HT.out]; omega) (show 1 ≤ ln by omega) (show ln ≤ lm by omega)
            have hU2 := ui_on hUN (Int.le_refl NT) (show tot ≤ tot + ln by omega)
            have kt := fun z => took_c true r HU.out.sm.ok t (tot + ln) (by unfold In; omega) z
            rw [show tkf true r t (tot + ln) = r.rch ((tot + ln) * 65536) from rfl] at kt
            generalize ht2 : r.rch ((tot + ln) * 65536) = t9 at *
            have hT2 : 0 ≤ tot + ln ∧ tot + ln ≤ ((k : Int) + 1) * 16384 := by omega
            have KM := Lib.hid (fun (tt : Int) (htt : In tt) z => most_c c1 cd c2 tt lm h1 h2 h3 htt (by omega) z)
            generalize hTT : tot + ln = TT at *
            obtain ⟨r2, hr2⟩ : ∃ r2, r = r2 := ⟨_, rfl⟩
            have KT := Lib.hid (show ∀ z, Calls Try.prog 44 #[.agg #[.bool (true), .int .u64 (r.x1), .int .u64 (hi r.y1), .int .u64 (lo r.y1), .int .u64 (r.m1), .int .u64 (r.x2), .int .u64 (hi r.y2), .int .u64 (lo r.y2), .int .u64 (r.m2), .bool (r.b), .int .u64 (t)], .int .u64 TT] z (fun ee w' => ee = .returned (.agg #[.bool (true), .int .u64 (r2.x1), .int .u64 (hi r2.y1), .int .u64 (lo r2.y1), .int .u64 (r2.m1), .int .u64 (r2.x2), .int .u64 (hi r2.y2), .int .u64 (lo r2.y2), .int .u64 (r2.m2), .bool (r2.b), .int .u64 (t9)]) ∧ Below z.heap.size z w') by rw [← hr2]; exact kt)
            have HW := Lib.hid (show UI c1 cd c2 NT TT r2 ws ∧ r2.rch (TT * 65536) = t9 by rw [← hr2]; exact And.intro hU2 ht2)
            clear hr2
            have HP := Lib.hid hpk
            have HN := Lib.hid (And.intro (And.intro n2 hn62) hT2)
            have HOA := Lib.hid (fun o1 => HO.out.alloc o1)
            clear kt hU2 ht2 hpk hUN hkd h1 h2 h3 hl0 hl1 n2 hn62 g0 g1 l0 l1 hgo hT2
            go_split_ands
            go_wp2_with (refine wpList_load_mid rfl 102 _ rfl b (o + k * 3) rfl _ _ hr Try.underlying102 rfl AI.out ?_)
            go_wp2_with ((go_at_call 44; (with_reducible refine (KT.out _).mono ?_); rintro ee w10 ⟨rfl, hbel⟩; have hO10 := Lib.hid (row_bel (HOA.out _) hbel); obtain ⟨hcc, hff⟩ := bcell hbel; have hsz := hbel.size; (try simp at hsz); have hF : (w10.cell? ⟨X, 0, none⟩ = some (.bool true) ∧ w10.cell? ⟨X, 1, none⟩ = some (.int .u64 (r).x1) ∧ w10.cell? ⟨X, 2, none⟩ = some (.int .u64 (hi (r).y1)) ∧ w10.cell? ⟨X, 3, none⟩ = some (.int .u64 (lo (r).y1)) ∧ w10.cell? ⟨X, 4, none⟩ = some (.int .u64 (r).m1) ∧ w10.cell? ⟨X, 5, none⟩ = some (.int .u64 (r).x2) ∧ w10.cell? ⟨X, 6, none⟩ = some (.int .u64 (hi (r).y2)) ∧ w10.cell? ⟨X, 7, none⟩ = some (.int .u64 (lo (r).y2)) ∧ w10.cell? ⟨X, 8, none⟩ = some (.int .u64 (r).m2) ∧ w10.cell? ⟨X, 9, none⟩ = some (.bool (r).b) ∧ w10.cell? ⟨X, 10, none⟩ = some (.int .u64 (t)) ∧ X < w10.heap.size) ∧ (w10.frozen? ⟨X, 0, none⟩ = false ∧ w10.frozen? ⟨X, 1, none⟩ = false ∧ w10.frozen? ⟨X, 2, none⟩ = false ∧ w10.frozen? ⟨X, 3, none⟩ = false ∧ w10.frozen? ⟨X, 4, none⟩ = false ∧ w10.frozen? ⟨X, 5, none⟩ = false ∧ w10.frozen? ⟨X, 6, none⟩ = false ∧ w10.frozen? ⟨X, 7, none⟩ = false ∧ w10.frozen? ⟨X, 8, none⟩ = false ∧ w10.frozen? ⟨X, 9, none⟩ = false ∧ w10.frozen? ⟨X, 10, none⟩ = false) ∧ ((w10.cell? ⟨w.heap.size, 0, none⟩ = some (.int .u64 c1) ∧ w10.cell? ⟨w.heap.size, 1, none⟩ = some (.int .u64 cd) ∧ w10.cell? ⟨w.heap.size, 2, none⟩ = some (.int .u64 c2) ∧ w.heap.size < w10.heap.size)) ∧ X + 1 ≤ w10.heap.size ∧ Below w.heap.size w w10 := (by ((repeat' apply And.intro) <;> first | (simp [go_sem, *]; done) | omega | (repeat' (first | with_reducible exact Below.refl _ _ | with_reducible assumption | ((with_reducible refine Below.drew ?_)) | ((with_reducible refine below_drewN ?_ _)) | ((with_reducible refine Below.alloc ?_ ?_ _); rotate_left; focus (first | omega | (simp; done) | (simp; omega))) | ((with_reducible refine Below.setCell ?_ ?_ _); rotate_left; focus (first | omega | (simp; done) | (simp; omega))) | ((with_reducible refine Below.trans ?_ (Below.mono (by with_reducible assumption) ?_)); rotate_left; focus (first | omega | (simp; done) | (simp; omega))))))); go_split_ands; clear hcc hff hbel))
            refine shrunk (fun z => (((z.cell? ⟨X, 0, none⟩ = some (.bool true) ∧ z.cell? ⟨X, 1, none⟩ = some (.int .u64 (r2).x1) ∧ z.cell? ⟨X, 2, none⟩ = some (.int .u64 (hi (r2).y1)) ∧ z.cell? ⟨X, 3, none⟩ = some (.int .u64 (lo (r2).y1)) ∧ z.cell? ⟨X, 4, none⟩ = some (.int .u64 (r2).m1) ∧ z.cell? ⟨X, 5, none⟩ = some (.int .u64 (r2).x2) ∧ z.cell? ⟨X, 6, none⟩ = some (.int .u64 (hi (r2).y2)) ∧ z.cell? ⟨X, 7, none⟩ = some (.int .u64 (lo (r2).y2)) ∧ z.cell? ⟨X, 8, none⟩ = some (.int .u64 (r2).m2) ∧ z.cell? ⟨X, 9, none⟩ = some (.bool (r2).b) ∧ z.cell? ⟨X, 10, none⟩ = some (.int .u64 (t9)) ∧ X < z.heap.size) ∧ (z.frozen? ⟨X, 0, none⟩ = false ∧ z.frozen? ⟨X, 1, none⟩ = false ∧ z.frozen? ⟨X, 2, none⟩ = false ∧ z.frozen? ⟨X, 3, none⟩ = false ∧ z.frozen? ⟨X, 4, none⟩ = false ∧ z.frozen? ⟨X, 5, none⟩ = false ∧ z.frozen? ⟨X, 6, none⟩ = false ∧ z.frozen? ⟨X, 7, none⟩ = false ∧ z.frozen? ⟨X, 8, none⟩ = false ∧ z.frozen? ⟨X, 9, none⟩ = false ∧ z.frozen? ⟨X, 10, none⟩ = false) ∧ ((z.cell? ⟨w.heap.size, 0, none⟩ = some (.int .u64 c1) ∧ z.cell? ⟨w.heap.size, 1, none⟩ = some (.int .u64 cd) ∧ z.cell? ⟨w.heap.size, 2, none⟩ = some (.int .u64 c2) ∧ w.heap.size < z.heap.size)) ∧ X + 1 ≤ z.heap.size ∧ Below w.heap.size w z)) ∧ z.ownsRow (X + 1) 100 2 (.slice ao ws.length cap) ws.length (ws.flatMap (fun q : Int × Int => [Value.int .u64 q.1, Value.int .u64 q.2]))) ⟨⟨by ((repeat' apply And.intro) <;> first | (simp [go_sem, *]; done) | omega | (repeat' (first | with_reducible exact Below.refl _ _ | with_reducible assumption | ((with_reducible refine Below.drew ?_)) | ((with_reducible refine below_drewN ?_ _)) | ((with_reducible refine Below.alloc ?_ ?_ _); rotate_left; focus (first | omega | (simp; done) | (simp; omega))) | ((with_reducible refine Below.setCell ?_ ?_ _); rotate_left; focus (first | omega | (simp; done) | (simp; omega))) | ((with_reducible refine Below.trans ?_ (Below.mono (by with_reducible assumption) ?_)); rotate_left; focus (first | omega | (simp; done) | (simp; omega)))))), by ((repeat' apply And.intro) <;> first | (simp [go_sem, *]; done) | omega | (repeat' (first | with_reducible exact Below.refl _ _ | with_reducible assumption | ((with_reducible refine Below.drew ?_)) | ((with_reducible refine below_drewN ?_ _)) | ((with_reducible refine Below.alloc ?_ ?_ _); rotate_left; focus (first | omega | (simp; done) | (simp; omega))) | ((with_reducible refine Below.setCell ?_ ?_ _); rotate_left; focus (first | omega | (simp; done) | (simp; omega))) | ((with_reducible refine Below.trans ?_ (Below.mono (by with_reducible assumption) ?_)); rotate_left; focus (first | omega | (simp; done) | (simp; omega)))))), by ((repeat' apply And.intro) <;> first | (simp [go_sem, *]; done) | omega | (repeat' (first | with_reducible exact Below.refl _ _ | with_reducible assumption | ((with_reducible refine Below.drew ?_)) | ((with_reducible refine below_drewN ?_ _)) | ((with_reducible refine Below.alloc ?_ ?_ _); rotate_left; focus (first | omega | (simp; done) | (simp; omega))) | ((with_reducible refine Below.setCell ?_ ?_ _); rotate_left; focus (first | omega | (simp; done) | (simp; omega))) | ((with_reducible refine Below.trans ?_ (Below.mono (by with_reducible assumption) ?_)); rotate_left; focus (first | omega | (simp; done) | (simp; omega)))))), by simp; omega, by ((repeat' (first | with_reducible exact Below.refl _ _ | with_reducible assumption | ((with_reducible refine Below.drew ?_)) | ((with_reducible refine below_drewN ?_ _)) | ((with_reducible refine Below.alloc ?_ ?_ _); rotate_left; focus (first | omega | (simp; done) | (simp; omega))) | ((with_reducible refine Below.setCell ?_ ?_ _); rotate_left; focus (first | omega | (simp; done) | (simp; omega))) | ((with_reducible refine Below.trans ?_ (Below.mono (by with_reducible assumption) ?_)); rotate_left; focus (first | omega | (simp; done) | (simp; omega))))); done)⟩, by (repeat (first | with_reducible exact hO10.out | with_reducible refine own_setX ?_ _ _))⟩ ?_
            intro w11 h11
            have H11 := Lib.hid h11
            obtain ⟨_, _, hveq, hRw, _⟩ := RwV.of_own pclC h11.2
            simp only [Value.slice.injEq, true_and] at hveq
            obtain ⟨rfl, rfl⟩ := hveq
            have HRw := Lib.hid hRw
            clear h11 hRw
            go_wp2_with fail
            go_loopw [96] (fun ii wq => ∃ j : Nat, j ≤ ws.length ∧ ii = .int .i64 j ∧ Below w11.heap.size w11 wq) (fun ii _ => ws.length - (intOf ii).toNat)
            case atStart => exact ⟨0, Nat.zero_le _, rfl, Below.refl _ _⟩
            case round =>
              obtain ⟨j, hj, rfl, hBq⟩ := hrel
              obtain ⟨⟨_, _, hcb11, hx11, hB11⟩, _⟩ := H11.out
              have hsq := hBq.size
              have hs11 := hB11.size
              by_cases hjl : j < ws.length
              · obtain ⟨b2, o2, rfl, hbl2, hr2⟩ := (HRw.out.below hBq) j hjl
                have hp2 := HP.out ws[j] (List.getElem_mem hjl)
                have hbd := HW.out.1.bd ws[j] (List.getElem_mem hjl)
                generalize ws[j] = p at hr2 hp2 hbd
                obtain ⟨pa, pt⟩ := p
                change wr.rangeAt b2 (o2 + j * 2) [.int .u64 pa, .int .u64 pt] at hr2
                dsimp only at hp2 hbd
                obtain ⟨⟨N0, N1⟩, N2⟩ := HN.out
                have km := fun z => KM.out (NT - pa) (by unfold In; omega) z
                have hmv : TT - pt ≤ mostv (srv c1 cd c2 (NT - pa)) lm := by
                  unfold mostv
                  split <;> (split at * <;> omega)
                have wa : IntKind.u64.wrap (TT - pt) = TT - pt := by rw [wrap_u64]; omega
                have wb : IntKind.u64.wrap (NT - pa) = NT - pa := by rw [wrap_u64]; omega
                generalize mostv (srv c1 cd c2 (NT - pa)) lm = MV at *
                have e9 : decide (MV < TT - pt) = false := by simp; omega
                have KM2 := Lib.hid km
                have hs1 : w11.heap.size ≤ wr.heap.size + 1 := by omega
                obtain ⟨hcc, hff⟩ := bcell hBq
                have hcb : (wr.cell? ⟨w.heap.size, 0, none⟩ = some (.int .u64 c1) ∧ wr.cell? ⟨w.heap.size, 1, none⟩ = some (.int .u64 cd) ∧ wr.cell? ⟨w.heap.size, 2, none⟩ = some (.int .u64 c2) ∧ w.heap.size < wr.heap.size) := by ((repeat' apply And.intro) <;> first | (simp [go_sem, *]; done) | omega | (repeat' (first | with_reducible exact Below.refl _ _ | with_reducible assumption | ((with_reducible refine Below.drew ?_)) | ((with_reducible refine below_drewN ?_ _)) | ((with_reducible refine Below.alloc ?_ ?_ _); rotate_left; focus (first | omega | (simp; done) | (simp; omega))) | ((with_reducible refine Below.setCell ?_ ?_ _); rotate_left; focus (first | omega | (simp; done) | (simp; omega))) | ((with_reducible refine Below.trans ?_ (Below.mono (by with_reducible assumption) ?_)); rotate_left; focus (first | omega | (simp; done) | (simp; omega))))))
                have hBw : Below w.heap.size w wr := hB11.trans (hBq.mono hs11)
                clear km hmv hp2 hbd N0 N1 N2 hcc hff hcb11
                go_split_ands
                go_wp2_with (refine wpList_load_mid rfl 100 _ rfl b2 (o2 + j * 2) rfl _ _ hr2 Try.underlying100 rfl PI.out ?_)
                obtain ⟨Cl, hCl⟩ : ∃ Cl : List Value → World → Prop, Cl = ((fun ps wz => (wz.cell? ⟨wr.heap.size, 0, none⟩ = some (.int .u64 pa) ∧ wz.cell? ⟨wr.heap.size, 1, none⟩ = some (.int .u64 pt) ∧ wr.heap.size < wz.heap.size) ∧ ((wz.cell? ⟨w.heap.size, 0, none⟩ = some (.int .u64 c1) ∧ wz.cell? ⟨w.heap.size, 1, none⟩ = some (.int .u64 cd) ∧ wz.cell? ⟨w.heap.size, 2, none⟩ = some (.int .u64 c2) ∧ w.heap.size < wz.heap.size)) ∧ w11.heap.size ≤ wz.heap.size ∧ Below w11.heap.size w11 wz)) := ⟨_, rfl⟩; have HCl := Lib.hid hCl; clear hCl; refine wp_region_eff [] Cl (by kernel_rfl) (by kernel_rfl) (by rw [HCl.out]; (try simp only [List.nil_append, List.cons_append]); (try dsimp only); ((repeat' apply And.intro) <;> first | (simp [go_sem, *]; done) | omega | (repeat' (first | with_reducible exact Below.refl _ _ | with_reducible assumption | ((with_reducible refine Below.drew ?_)) | ((with_reducible refine below_drewN ?_ _)) | ((with_reducible refine Below.alloc ?_ ?_ _); rotate_left; focus (first | omega | (simp; done) | (simp; omega))) | ((with_reducible refine Below.setCell ?_ ?_ _); rotate_left; focus (first | omega | (simp; done) | (simp; omega))) | ((with_reducible refine Below.trans ?_ (Below.mono (by with_reducible assumption) ?_)); rotate_left; focus (first | omega | (simp; done) | (simp; omega))))))) ?_
                (repeat (first | (refine wE_skip (by rfl) ?_; simp only [Act.put, Nat.reduceAdd, List.setIfInBounds_toArray, List.set_cons_zero, List.set_cons_succ, List.nil_append, List.cons_append]) | (refine wE_open (by rfl) (by rfl) ?_; apply Exists.intro; refine ⟨fun vs wq hw => ?_, ?_⟩; (focus (rw [HCl.out] at hw; (try simp only [List.nil_append, List.cons_append] at hw); (try dsimp only at hw); go_split_ands; go_simp <;> first | with_reducible exact (rfl : Value.bool false = _) | with_reducible exact (rfl : Value.bool true = _) | ((try go_bits) <;> exact rfl))); simp only [Act.put, Nat.reduceAdd, List.setIfInBounds_toArray, List.set_cons_zero, List.set_cons_succ, List.nil_append, List.cons_append]) | (refine wE_seal (by rfl) (by rfl) (by kernel_rfl) ?_; apply Exists.intro; refine ⟨fun wq hw => ?_, ?_⟩; (focus (rw [HCl.out] at hw; (try simp only [List.nil_append, List.cons_append] at hw); (try dsimp only at hw); go_split_ands; go_simp <;> (try go_bits) <;> exact rfl)); simp only [Act.put, Nat.reduceAdd, List.setIfInBounds_toArray, List.set_cons_zero, List.set_cons_succ, List.nil_append, List.cons_append]) | (refine wE_seal (by rfl) (by rfl) (by kernel_rfl) ?_; apply Exists.intro; refine ⟨fun wq hw => ?_, ?_⟩; (focus (rw [HCl.out] at hw; (try simp only [List.nil_append, List.cons_append] at hw); (try dsimp only at hw); go_split_ands; go_simp; (go_at_call 45; ((with_reducible refine (KM2.out _).mono ?_); rintro e w' ⟨rfl, hbel⟩; obtain ⟨hcc, hff⟩ := bcell hbel; have hsz := hbel.size; (try simp at hsz); refine ⟨rfl, ?_⟩; rw [HCl.out]; (try simp only [List.nil_append, List.cons_append]); (try dsimp only); ((repeat' apply And.intro) <;> first | (simp [go_sem, *]; done) | omega | (repeat' (first | with_reducible exact Below.refl _ _ | with_reducible assumption | ((with_reducible refine Below.drew ?_)) | ((with_reducible refine below_drewN ?_ _)) | ((with_reducible refine Below.alloc ?_ ?_ _); rotate_left; focus (first | omega | (simp; done) | (simp; omega))) | ((with_reducible refine Below.setCell ?_ ?_ _); rotate_left; focus (first | omega | (simp; done) | (simp; omega))) | ((with_reducible refine Below.trans ?_ (Below.mono (by with_reducible assumption) ?_)); rotate_left; focus (first | omega | (simp; done) | (simp; omega)))))))))); simp only [Act.put, Nat.reduceAdd, List.setIfInBounds_toArray, List.set_cons_zero, List.set_cons_succ, List.nil_append, List.cons_append]) | (refine wE_eff (by rfl) (by rfl) (fun wq hw => ?_) (fun u hu => ?_); (focus (rw [HCl.out] at hw; (try simp only [List.nil_append, List.cons_append] at hw); (try dsimp only at hw); go_split_ands; go_simp; rw [HCl.out]; (try simp only [List.nil_append, List.cons_append]); (try dsimp only); skip; ((repeat' apply And.intro) <;> first | (simp [go_sem, *]; done) | omega | (repeat' (first | with_reducible exact Below.refl _ _ | with_reducible assumption | ((with_reducible refine Below.drew ?_)) | ((with_reducible refine below_drewN ?_ _)) | ((with_reducible refine Below.alloc ?_ ?_ _); rotate_left; focus (first | omega | (simp; done) | (simp; omega))) | ((with_reducible refine Below.setCell ?_ ?_ _); rotate_left; focus (first | omega | (simp; done) | (simp; omega))) | ((with_reducible refine Below.trans ?_ (Below.mono (by with_reducible assumption) ?_)); rotate_left; focus (first | omega | (simp; done) | (simp; omega)))))))); clear hu; simp only [Act.put, Nat.reduceAdd, List.setIfInBounds_toArray, List.set_cons_zero, List.set_cons_succ, List.nil_append, List.cons_append])))
                refine wE_nil ?_; intro w' hw; rw [HCl.out] at hw; (try simp only [List.nil_append, List.cons_append] at hw); (try dsimp only at hw); clear HCl
                go_split_ands
                go_wp2
                go_roundw
                case rel =>
                  first
                    | exact ⟨j + 1, by omega, by go_num, by assumption⟩
                    | ((repeat apply Exists.intro); exact ⟨⟨j + 1, by omega, by go_num, by assumption⟩, rfl⟩)
                case measure => simp [intOf]; omega
              · obtain rfl : j = ws.length := by omega
                obtain ⟨hcc, hff⟩ := bcell hBq
                have h11 := H11.out
                obtain ⟨⟨f1, f2, f3, f4, f5⟩, f6⟩ := h11
                have hF12 : (wr.cell? ⟨X, 0, none⟩ = some (.bool true) ∧ wr.cell? ⟨X, 1, none⟩ = some (.int .u64 (r2).x1) ∧ wr.cell? ⟨X, 2, none⟩ = some (.int .u64 (hi (r2).y1)) ∧ wr.cell? ⟨X, 3, none⟩ = some (.int .u64 (lo (r2).y1)) ∧ wr.cell? ⟨X, 4, none⟩ = some (.int .u64 (r2).m1) ∧ wr.cell? ⟨X, 5, none⟩ = some (.int .u64 (r2).x2) ∧ wr.cell? ⟨X, 6, none⟩ = some (.int .u64 (hi (r2).y2)) ∧ wr.cell? ⟨X, 7, none⟩ = some (.int .u64 (lo (r2).y2)) ∧ wr.cell? ⟨X, 8, none⟩ = some (.int .u64 (r2).m2) ∧ wr.cell? ⟨X, 9, none⟩ = some (.bool (r2).b) ∧ wr.cell? ⟨X, 10, none⟩ = some (.int .u64 (t9)) ∧ X < wr.heap.size) ∧ (wr.frozen? ⟨X, 0, none⟩ = false ∧ wr.frozen? ⟨X, 1, none⟩ = false ∧ wr.frozen? ⟨X, 2, none⟩ = false ∧ wr.frozen? ⟨X, 3, none⟩ = false ∧ wr.frozen? ⟨X, 4, none⟩ = false ∧ wr.frozen? ⟨X, 5, none⟩ = false ∧ wr.frozen? ⟨X, 6, none⟩ = false ∧ wr.frozen? ⟨X, 7, none⟩ = false ∧ wr.frozen? ⟨X, 8, none⟩ = false ∧ wr.frozen? ⟨X, 9, none⟩ = false ∧ wr.frozen? ⟨X, 10, none⟩ = false) ∧ ((wr.cell? ⟨w.heap.size, 0, none⟩ = some (.int .u64 c1) ∧ wr.cell? ⟨w.heap.size, 1, none⟩ = some (.int .u64 cd) ∧ wr.cell? ⟨w.heap.size, 2, none⟩ = some (.int .u64 c2) ∧ w.heap.size < wr.heap.size)) := by
                  clear HRw
                  go_split_ands
                  ((repeat' apply And.intro) <;> first | (simp [go_sem, *]; done) | omega | (repeat' (first | with_reducible exact Below.refl _ _ | with_reducible assumption | ((with_reducible refine Below.drew ?_)) | ((with_reducible refine below_drewN ?_ _)) | ((with_reducible refine Below.alloc ?_ ?_ _); rotate_left; focus (first | omega | (simp; done) | (simp; omega))) | ((with_reducible refine Below.setCell ?_ ?_ _); rotate_left; focus (first | omega | (simp; done) | (simp; omega))) | ((with_reducible refine Below.trans ?_ (Below.mono (by with_reducible assumption) ?_)); rotate_left; focus (first | omega | (simp; done) | (simp; omega))))))
                have hO12 := Lib.hid (row_bel f6 hBq)
                have hB12 : Below w.heap.size w wr := hB11.trans (hBq.mono hs11)
                clear hcc hff f1 f2 f3 f6
                have HF := Lib.hid hF12
                clear hF12
                go_wp2
                go_roundw
                case rel =>
                  first
                    | exact ⟨k + 1, NT, TT, ws, r2, t9, by omega, by go_num, rfl, rfl, ⟨by have := HN.out.1.1; omega, by have := HN.out.2; omega, by omega⟩, HW.out.1, HW.out.2, ⟨HF.out.1, HF.out.2.1, HF.out.2.2, by omega, hB12⟩, hO12.out⟩
                    | ((repeat apply Exists.intro); exact ⟨⟨k + 1, NT, TT, ws, r2, t9, by omega, by go_num, rfl, rfl, ⟨by have := HN.out.1.1; omega, by have := HN.out.2; omega, by omega⟩, HW.out.1, HW.out.2, ⟨HF.out.1, HF.out.2.1, HF.out.2.2, by omega, hB12⟩, hO12.out⟩, rfl⟩)
                case measure => simp [intOf]; omega
      · obtain rfl : k = ls.length := by omega
        clear hch hcf hcb
        go_wp2_with (go_at_call 42; ((with_reducible refine (K.out _).mono ?_); rintro e w7 ⟨rfl, hbel⟩; obtain ⟨hcc, hff⟩ := bcell hbel; have hsz := hbel.size; (try simp at hsz); have hF : Below w.heap.size w w7 := (by ((repeat' apply And.intro) <;> first | (simp [go_sem, *]; done) | omega | (repeat' (first | with_reducible exact Below.refl _ _ | with_reducible assumption | ((with_reducible refine Below.drew ?_)) | ((with_reducible refine below_drewN ?_ _)) | ((with_reducible refine Below.alloc ?_ ?_ _); rotate_left; focus (first | omega | (simp; done) | (simp; omega))) | ((with_reducible refine Below.setCell ?_ ?_ _); rotate_left; focus (first | omega | (simp; done) | (simp; omega))) | ((with_reducible refine Below.trans ?_ (Below.mono (by with_reducible assumption) ?_)); rotate_left; focus (first | omega | (simp; done) | (simp; omega))))))); go_split_ands; clear hcc hff hbel))
        (go_ret; refine ⟨?_, ?_⟩; (focus (exact rfl)); ((repeat' (first | with_reducible exact Below.refl _ _ | with_reducible assumption | ((with_reducible refine Below.drew ?_)) | ((with_reducible refine below_drewN ?_ _)) | ((with_reducible refine Below.alloc ?_ ?_ _); rotate_left; focus (first | omega | (simp; done) | (simp; omega))) | ((with_reducible refine Below.setCell ?_ ?_ _); rotate_left; focus (first | omega | (simp; done) | (simp; omega))) | ((with_reducible refine Below.trans ?_ (Below.mono (by with_reducible assumption) ?_)); rotate_left; focus (first | omega | (simp; done) | (simp; omega))))); done))
theorem upperBounds_law (c1 cd c2 : Int) (v : Value) (lm : Int) {w : World} (w0 : (Lit.int .u64 c1).wf = true) (w1 : (Lit.int .u64 cd).wf = true) (w2 : (Lit.int .u64 c2).wf = true) (hs : Op.FlatSlice w 3 [.int .i64, .int .i64, .int .u64] v) (wt : (Lit.int .i64 lm).wf = true) :
    Calls Try.prog 8 #[.agg #[.int .u64 (c1), .int .u64 (cd), .int .u64 (c2)], v, .int .i64 lm] w fun e w' => e = .returned (.bool true) ∧ Below w.heap.size w w' := by
  have h1 := in_wf w0
  have h2 := in_wf w1
  have h3 := in_wf w2
  obtain ⟨a, ls, cap, rfl, hR, hq⟩ := acts_of hs
  by_cases h : 60 < ls.length ∨ (ls.length ≤ 60 ∧ lm < 1) ∨ (ls.length ≤ 60 ∧ 1 ≤ lm ∧ 16384 < lm) ∨ (ls.length ≤ 60 ∧ 1 ≤ lm ∧ lm ≤ 16384 ∧ ¬ kind c1 cd c2 = 2 ∧ ¬ kind c1 cd c2 = 3)
  · exact bounds_out c1 cd c2 lm a _ cap h1 h2 h3 h w
  · exact bounds_in c1 cd c2 lm _ h1 h2 h3 rfl (by omega) ls a cap (by omega) hq (by omega) (by omega) w hR
end Go.Proofs.Ytdahjhokcjfioaa
