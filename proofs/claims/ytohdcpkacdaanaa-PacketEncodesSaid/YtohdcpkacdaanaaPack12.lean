/- PacketEncodes and PacketDecodes. -/
import Derived.Test.YtohdcpkacdaanaaPack11
import Derived.Test.YtohdcpkacdaanaaPack4
namespace Go.Proofs.Ytohdcpkacdaanaa
set_option linter.unusedVariables false
set_option linter.unusedSimpArgs false
set_option maxRecDepth 100000
open Go.RowKit Fg Reg
attribute [local irreducible] Reg.wE

theorem run_equalIn_ar {P : Program} (d : Nat) (t e : TypeId) (n : Nat) (k : IntKind) (ht : P.underlying t = some (.array n e)) (he : P.underlying e = some (.int k)) (hz : ∀ w, (sizeOf e).run P w = .ok 1 w) (hp : ∀ (cs : Array Value) (i : Nat) (v : Value) w, cs[i]? = some v → (part e cs i).run P w = .ok v w)
    (xs ys : List Int) (hx : xs.length = n) (hy : ys.length = n) (w : World) :
    (Op.equalIn (d + 2) t (.agg (xs.map (Value.int k)).toArray) (.agg (ys.map (Value.int k)).toArray)).run P w = .ok (xs == ys) w := by
  rw [Op.equalIn]
  simp only [Sem.run_bind, run_underlying ht, Result.andThen_ok, hz]
  have key : ∀ (m s : Nat), s + m = n → ∀ w : World, Sem.run P (forIn (List.range' s m) ((none : Option Bool), ()) fun i __s => do
            let __do_lift ← part e (List.map (Value.int k) xs).toArray (i * 1)
            let __do_lift_1 ← part e (List.map (Value.int k) ys).toArray (i * 1)
            let __do_lift ← Op.equalIn (d + 1) e __do_lift __do_lift_1
            if (!__do_lift) = true then pure (ForInStep.done (some false, ())) else pure (ForInStep.yield (none, ()))) w = .ok (if xs.drop s == ys.drop s then (none, ()) else (some false, ())) w := by
    intro m
    induction m with
    | zero =>
      intro s hs w
      rw [List.drop_eq_nil_of_le (by omega), List.drop_eq_nil_of_le (by omega)]
      simp [List.range']
    | succ m ih =>
      intro s hs w
      have h1 : s < xs.length := by omega
      have h2 : s < ys.length := by omega
      rw [List.range'_succ, List.forIn_cons]
      simp only [Sem.run_bind, Nat.mul_one]
      rw [hp _ s (.int k xs[s]) w (by simp [h1]), Result.andThen_ok, hp _ s (.int k ys[s]) w (by simp [h2]), Result.andThen_ok, run_equalIn_int w d e k k _ _ he, Result.andThen_ok]
      rw [List.drop_eq_getElem_cons h1, List.drop_eq_getElem_cons h2, List.cons_beq_cons]
      cases hb : (xs[s] == ys[s]) with
      | false => simp
      | true =>
        have := ih (s + 1) (by omega) w
        simp only [Nat.mul_one] at this
        simpa using this
  have h := key n 0 (by omega) w
  simp only [Std.Legacy.Range.forIn_eq_forIn_range', Std.Legacy.Range.size, Nat.sub_zero, Nat.add_one_sub_one, Nat.div_one]
  rw [h, Result.andThen_ok, List.drop_zero, List.drop_zero]
  cases hb : (xs == ys) <;> simp

theorem run_equalIn_ar4 {P : Program} (d : Nat) (t e : TypeId) (k : IntKind) (ht : P.underlying t = some (.array 4 e)) (he : P.underlying e = some (.int k)) (hz : ∀ w, (sizeOf e).run P w = .ok 1 w) (hp : ∀ (cs : Array Value) (i : Nat) (v : Value) w, cs[i]? = some v → (part e cs i).run P w = .ok v w)
    (a b c f a' b' c' f' : Int) (w : World) :
    (Op.equalIn (d + 2) t (.agg #[.int k a, .int k b, .int k c, .int k f]) (.agg #[.int k a', .int k b', .int k c', .int k f'])).run P w = .ok ([a, b, c, f] == [a', b', c', f']) w :=
  run_equalIn_ar d t e 4 k ht he hz hp [a, b, c, f] [a', b', c', f'] rfl rfl w

theorem eqHd (n : Nat) (a b c d : Int) (w : World) : (Op.equalIn (n + 2) 25 (.agg #[.int .u16 a, .int .u16 b, .int .u16 c, .int .u16 d]) (.agg #[.int .u16 a, .int .u16 b, .int .u16 c, .int .u16 d])).run Try.prog w = .ok true w := by
  have hz : ∀ w, (sizeOf 23).run Try.prog w = .ok 1 w := fun w => by kernel_rfl
  have ha : ∀ w, (isAgg 23).run Try.prog w = .ok false w := fun w => by kernel_rfl
  have h := run_equalIn_ar4 (P := Try.prog) n 25 23 .u16 Try.underlying25 Try.underlying23 hz (fun cs i v w h => by unfold part; simp only [Sem.run_bind, ha, Result.andThen_ok, Bool.false_eq_true, if_false, h]; rfl) a b c d a b c d w
  simpa using h
/-- A packet, held against itself. -/
theorem eqPk (i n a b c d : Int) (w : World) : (Op.equalIn 10000 27 (.agg #[.int .u64 i, .int .i64 n, .int .u16 a, .int .u16 b, .int .u16 c, .int .u16 d]) (.agg #[.int .u64 i, .int .i64 n, .int .u16 a, .int .u16 b, .int .u16 c, .int .u16 d])).run Try.prog w = .ok true w := by
  have hz : ∀ w, (sizeOf 22).run Try.prog w = .ok 1 w := fun w => by kernel_rfl
  have ha : ∀ w, (isAgg 22).run Try.prog w = .ok false w := fun w => by kernel_rfl
  have hz1 : ∀ w, (sizeOf 3).run Try.prog w = .ok 1 w := fun w => by kernel_rfl
  have ha1 : ∀ w, (isAgg 3).run Try.prog w = .ok false w := fun w => by kernel_rfl
  have hz2 : ∀ w, (sizeOf 23).run Try.prog w = .ok 1 w := fun w => by kernel_rfl
  have ha2 : ∀ w, (isAgg 23).run Try.prog w = .ok false w := fun w => by kernel_rfl
  have hz3 : ∀ w, (sizeOf 25).run Try.prog w = .ok 4 w := fun w => by kernel_rfl
  have ha3 : ∀ w, (isAgg 25).run Try.prog w = .ok true w := fun w => by kernel_rfl
  have e9 := eqHd 9997
  have u1 := Try.underlying22
  have u2 := Try.underlying3
  have u3 := Try.underlying23
  have hS : Try.prog.underlying 27 = some (.struct (Try.prog.fieldsOf 27)) := by kernel_rfl
  have hp : Try.prog.stoodInHeld 27 = false := by kernel_rfl
  rw [show (10000 : Nat) = 9999 + 1 from rfl, run_equalIn_agg w 9999 27 _ _ hS hp]
  simp only [Program.fieldsOf, Try.underlying27]
  go_simp

theorem byt_str (ns : List Int) (j : Nat) (x : Int) (hj : ns[j]? = some x) (hx : 0 ≤ x ∧ x ≤ 255) : byt (strOf ns) j = x := by
  unfold byt
  rw [strOf_eq]
  simp [hj]
  omega
theorem horn_pkb (i n a b c d : Int) (hi : 0 ≤ i ∧ i ≤ 18446744073709551615) (hn : 1 ≤ n ∧ n ≤ 16384) (ha : 0 ≤ a ∧ a ≤ 65535) (hb : 0 ≤ b ∧ b ≤ 65535) (hc : 0 ≤ c ∧ c ≤ 65535) (hd : 0 ≤ d ∧ d ≤ 65535) :
    horn (strOf (pkb i n a b c d)) 0 8 = i ∧ horn (strOf (pkb i n a b c d)) 8 2 = n ∧ horn (strOf (pkb i n a b c d)) 10 2 = a ∧ horn (strOf (pkb i n a b c d)) 12 2 = b ∧ horn (strOf (pkb i n a b c d)) 14 2 = c ∧ horn (strOf (pkb i n a b c d)) 16 2 = d := by
  have q0 : byt (strOf (pkb i n a b c d)) 0 = i / 72057594037927936 := byt_str (pkb i n a b c d) 0 _ rfl (by omega)
  have q1 : byt (strOf (pkb i n a b c d)) 1 = i / 281474976710656 % 256 := byt_str (pkb i n a b c d) 1 _ rfl (by omega)
  have q2 : byt (strOf (pkb i n a b c d)) 2 = i / 1099511627776 % 256 := byt_str (pkb i n a b c d) 2 _ rfl (by omega)
  have q3 : byt (strOf (pkb i n a b c d)) 3 = i / 4294967296 % 256 := byt_str (pkb i n a b c d) 3 _ rfl (by omega)
  have q4 : byt (strOf (pkb i n a b c d)) 4 = i / 16777216 % 256 := byt_str (pkb i n a b c d) 4 _ rfl (by omega)
  have q5 : byt (strOf (pkb i n a b c d)) 5 = i / 65536 % 256 := byt_str (pkb i n a b c d) 5 _ rfl (by omega)
  have q6 : byt (strOf (pkb i n a b c d)) 6 = i / 256 % 256 := byt_str (pkb i n a b c d) 6 _ rfl (by omega)
  have q7 : byt (strOf (pkb i n a b c d)) 7 = i % 256 := byt_str (pkb i n a b c d) 7 _ rfl (by omega)
  have q8 : byt (strOf (pkb i n a b c d)) 8 = n / 256 := byt_str (pkb i n a b c d) 8 _ rfl (by omega)
  have q9 : byt (strOf (pkb i n a b c d)) 9 = n % 256 := byt_str (pkb i n a b c d) 9 _ rfl (by omega)
  have q10 : byt (strOf (pkb i n a b c d)) 10 = a / 256 := byt_str (pkb i n a b c d) 10 _ rfl (by omega)
  have q11 : byt (strOf (pkb i n a b c d)) 11 = a % 256 := byt_str (pkb i n a b c d) 11 _ rfl (by omega)
  have q12 : byt (strOf (pkb i n a b c d)) 12 = b / 256 := byt_str (pkb i n a b c d) 12 _ rfl (by omega)
  have q13 : byt (strOf (pkb i n a b c d)) 13 = b % 256 := byt_str (pkb i n a b c d) 13 _ rfl (by omega)
  have q14 : byt (strOf (pkb i n a b c d)) 14 = c / 256 := byt_str (pkb i n a b c d) 14 _ rfl (by omega)
  have q15 : byt (strOf (pkb i n a b c d)) 15 = c % 256 := byt_str (pkb i n a b c d) 15 _ rfl (by omega)
  have q16 : byt (strOf (pkb i n a b c d)) 16 = d / 256 := byt_str (pkb i n a b c d) 16 _ rfl (by omega)
  have q17 : byt (strOf (pkb i n a b c d)) 17 = d % 256 := byt_str (pkb i n a b c d) 17 _ rfl (by omega)
  generalize strOf (pkb i n a b c d) = S at *
  have h0 : horn S 0 8 = i := by
    simp only [horn, Nat.reduceAdd]
    rw [q0, q1, q2, q3, q4, q5, q6, q7]
    omega
  have h1 : horn S 8 2 = n := by
    simp only [horn, Nat.reduceAdd]
    rw [q8, q9]
    omega
  have h2 : horn S 10 2 = a := by
    simp only [horn, Nat.reduceAdd]
    rw [q10, q11]
    omega
  have h3 : horn S 12 2 = b := by
    simp only [horn, Nat.reduceAdd]
    rw [q12, q13]
    omega
  have h4 : horn S 14 2 = c := by
    simp only [horn, Nat.reduceAdd]
    rw [q14, q15]
    omega
  have h5 : horn S 16 2 = d := by
    simp only [horn, Nat.reduceAdd]
    rw [q16, q17]
    omega
  exact ⟨h0, h1, h2, h3, h4, h5⟩
theorem pkb_back (S : ByteArray) (hS : S.size = 18) : strOf (pkb (horn S 0 8) (horn S 8 2) (horn S 10 2) (horn S 12 2) (horn S 14 2) (horn S 16 2)) = S := by
  have hm : S = strOf ((List.range 18).map (byt S)) := by
    rw [strOf_eq]
    apply ByteArray.ext
    apply Array.ext
    · simp; exact hS
    · intro k h1 h2
      have hk : k < 18 := by simpa using h2
      simp [byt, h1]
      rw [Array.getElem?_eq_getElem h1]
      rfl
  conv => rhs; rw [hm]
  congr 1
  have b0 := byt_bd S 0
  have b1 := byt_bd S 1
  have b2 := byt_bd S 2
  have b3 := byt_bd S 3
  have b4 := byt_bd S 4
  have b5 := byt_bd S 5
  have b6 := byt_bd S 6
  have b7 := byt_bd S 7
  have b8 := byt_bd S 8
  have b9 := byt_bd S 9
  have b10 := byt_bd S 10
  have b11 := byt_bd S 11
  have b12 := byt_bd S 12
  have b13 := byt_bd S 13
  have b14 := byt_bd S 14
  have b15 := byt_bd S 15
  have b16 := byt_bd S 16
  have b17 := byt_bd S 17
  simp only [List.range, List.range.loop, List.map, horn, Nat.reduceAdd, pkb]
  generalize byt S 0 = x0 at *
  generalize byt S 1 = x1 at *
  generalize byt S 2 = x2 at *
  generalize byt S 3 = x3 at *
  generalize byt S 4 = x4 at *
  generalize byt S 5 = x5 at *
  generalize byt S 6 = x6 at *
  generalize byt S 7 = x7 at *
  generalize byt S 8 = x8 at *
  generalize byt S 9 = x9 at *
  generalize byt S 10 = x10 at *
  generalize byt S 11 = x11 at *
  generalize byt S 12 = x12 at *
  generalize byt S 13 = x13 at *
  generalize byt S 14 = x14 at *
  generalize byt S 15 = x15 at *
  generalize byt S 16 = x16 at *
  generalize byt S 17 = x17 at *
  simp only [List.cons.injEq, and_true]
  refine ⟨?_, ?_, ?_, ?_, ?_, ?_, ?_, ?_, ?_, ?_, ?_, ?_, ?_, ?_, ?_, ?_, ?_, ?_⟩ <;> omega

theorem one_c (w : World) : Calls Try.prog 16 #[] w fun ee w' => ee = .returned (.bool true) ∧ Below w.heap.size w w' := by
  have h1 := enc_c 1 258 2 3 4 5 (by omega) (by omega) (by omega) (by omega) (by omega) (by omega)
  rw [show strOf (pkb 1 258 2 3 4 5) = (⟨#[0, 0, 0, 0, 0, 0, 0, 1, 1, 2, 0, 2, 0, 3, 0, 4, 0, 5]⟩ : ByteArray) by decide] at h1
  have h2 := fun w => dec_ok (⟨#[0, 0, 0, 0, 0, 0, 0, 1, 1, 2, 0, 2, 0, 3, 0, 4, 0, 5]⟩ : ByteArray) rfl (by decide) w
  rw [show horn (⟨#[0, 0, 0, 0, 0, 0, 0, 1, 1, 2, 0, 2, 0, 3, 0, 4, 0, 5]⟩ : ByteArray) 0 8 = 1 by decide, show horn (⟨#[0, 0, 0, 0, 0, 0, 0, 1, 1, 2, 0, 2, 0, 3, 0, 4, 0, 5]⟩ : ByteArray) 8 2 = 258 by decide, show horn (⟨#[0, 0, 0, 0, 0, 0, 0, 1, 1, 2, 0, 2, 0, 3, 0, 4, 0, 5]⟩ : ByteArray) 10 2 = 2 by decide, show horn (⟨#[0, 0, 0, 0, 0, 0, 0, 1, 1, 2, 0, 2, 0, 3, 0, 4, 0, 5]⟩ : ByteArray) 12 2 = 3 by decide, show horn (⟨#[0, 0, 0, 0, 0, 0, 0, 1, 1, 2, 0, 2, 0, 3, 0, 4, 0, 5]⟩ : ByteArray) 14 2 = 4 by decide, show horn (⟨#[0, 0, 0, 0, 0, 0, 0, 1, 1, 2, 0, 2, 0, 3, 0, 4, 0, 5]⟩ : ByteArray) 16 2 = 5 by decide] at h2
  exact one_in (fun w => eqPk 1 258 2 3 4 5 w) h1 h2 (tic_ok 1 258 2 3 4 5 3 (by omega) (by omega)) w
theorem enc_bad (i n a b c d : Int) (hn : n < 1 ∨ 16384 < n) (w : World) : Calls Try.prog 15 #[.agg #[.int .u64 i, .int .i64 n, .int .u16 a, .int .u16 b, .int .u16 c, .int .u16 d]] w fun ee w' => ee = .returned (.tuple #[.string ⟨#[]⟩, .int .i64 26]) ∧ Below w.heap.size w w' := by
  have k1 := may_c i n a b c d 16384
  rw [show mayv n 16384 = 26 by unfold mayv; rw [if_neg (by omega), if_pos (by omega)]] at k1
  have K1 := Lib.hid k1
  clear k1
  go_enter Try.func15, Try.ntmps15
  go_wp2_with (go_at_call 21; ((with_reducible refine (K1.out _).mono ?_); rintro e w1 ⟨rfl, hbel⟩; obtain ⟨hcc, hff⟩ := bcell hbel; have hsz := hbel.size; (try simp at hsz); have hF : Below w.heap.size w w1 := (by ((repeat' apply And.intro) <;> first | (simp [go_sem, *]; done) | omega | (repeat' (first | with_reducible exact Below.refl _ _ | with_reducible assumption | ((with_reducible refine Below.drew ?_)) | ((with_reducible refine below_drewN ?_ _)) | ((with_reducible refine Below.alloc ?_ ?_ _); rotate_left; focus (first | omega | (simp; done) | (simp; omega))) | ((with_reducible refine Below.setCell ?_ ?_ _); rotate_left; focus (first | omega | (simp; done) | (simp; omega))) | ((with_reducible refine Below.trans ?_ (Below.mono (by with_reducible assumption) ?_)); rotate_left; focus (first | omega | (simp; done) | (simp; omega))))))); go_split_ands; clear hcc hff hbel))
  (go_ret2; refine ⟨?_, ?_⟩; (focus (exact rfl)); ((repeat' (first | with_reducible exact Below.refl _ _ | with_reducible assumption | ((with_reducible refine Below.drew ?_)) | ((with_reducible refine below_drewN ?_ _)) | ((with_reducible refine Below.alloc ?_ ?_ _); rotate_left; focus (first | omega | (simp; done) | (simp; omega))) | ((with_reducible refine Below.setCell ?_ ?_ _); rotate_left; focus (first | omega | (simp; done) | (simp; omega))) | ((with_reducible refine Below.trans ?_ (Below.mono (by with_reducible assumption) ?_)); rotate_left; focus (first | omega | (simp; done) | (simp; omega))))); done))
end Go.Proofs.Ytohdcpkacdaanaa
