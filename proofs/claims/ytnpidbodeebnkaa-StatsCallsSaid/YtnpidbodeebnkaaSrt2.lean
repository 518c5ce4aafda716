/- slices.Sorted(maps.Keys(m)) of a map of int keys in memory. -/
import Derived.Test.YtnpidbodeebnkaaSrt1
import Derived.Test.YtnpidbodeebnkaaMap0
namespace Go.Proofs.Ytnpidbodeebnkaa
set_option linter.unusedVariables false
set_option linter.unusedSimpArgs false
set_option maxRecDepth 100000
open Go.RowKit Fg Reg Go.Maps Go.Sort Go.Shelf

theorem sortsA (m : Nat) : AnyZI.SortsIn Try.prog sortedA_ren Fence.wide m :=
  ⟨fun blk off cap ss W hH hblk hsz => callsIn_wide.2 (AnyM.slices_Sort_int sortA blk off cap ss W hH hblk hsz),
   fun p cap W => callsIn_wide.2 (AnyM.slices_Sort_int_none sortA p cap W)⟩
theorem keys_c (mb : Option Nat) (W : World) : Calls Try.prog 22 #[.map mb] W fun e w' => e = .returned (.func (.func 25) #[] #[.pointer (some ⟨W.heap.size, 0, none⟩)]) ∧ w' = W.alloc (.cells #[.map mb] 52) :=
  (callsIn_wide (n := 5)).1 (AnyZI.keys_in keysA Fence.wide 5 trivial rfl mb W)
set_option maxHeartbeats 1000000 in
theorem sorted_c {H : Type} (b nn : Nat) (D0 : DataW H) (R : Value → Option (DataW H × List MemPlace)) (w : World) (hown : w.ownsMap Try.prog 3 R b nn D0) (hmax : Maps.size D0 ≤ maxLen) (hbytes : Maps.size D0 * 8 ≤ 140737488355328) :
    Calls Try.prog 21 #[.func (.func 25) #[] #[.pointer (some ⟨w.heap.size, 0, none⟩)]] (w.alloc (.cells #[.map (some b)] 52)) fun e w' => ∃ (v : Value) (ss : List Int), e = .returned v ∧ ss.Perm (intKeys D0) ∧
      w'.ownsRow w.heap.size 3 1 v ss.length ((ss.mergeSort (fun x y => decide (x ≤ y))).map encZ) ∧ (v = .slice none 0 0 ↔ ss = []) ∧ Below w.heap.size w w' := by
  have hbl := hown.lt
  have hseq : SeqGives Fence.wide 2 Try.prog 25 #[.pointer (some ⟨w.heap.size, 0, none⟩)] encZ (fun ss => ss.Perm (intKeys D0)) (Maps.size D0) (w.alloc (.cells #[.map (some b)] 52)) :=
    AnyZI.keys_gives (ρ := keysA_ren) { keysA with } Fence.wide _ trivial rfl (by omega) w.heap.size b nn D0 _ (by simp) (by simp) (by
      obtain ⟨es, clock, hb, Ft, hs, hD⟩ := hown
      exact ⟨es, clock, (Below.heap_alloc _ _ b hbl).trans hb, Ft, hs, hD⟩)
  have cS := AnyZI.sorted_in sortedA Fence.wide 5 trivial trivial trivial trivial rfl (by omega) (sortsA _) (enters_of Try.func24 (by kernel_rfl) rfl) 25 #[.pointer (some ⟨w.heap.size, 0, none⟩)] trivial (enters_of Try.func25 (by kernel_rfl) rfl) _ _ hmax hbytes _ hseq
  refine ((callsIn_wide (n := 5)).1 cS).mono ?_
  rintro e w' ⟨v, ss, rfl, hS, hrow, hnil, hb⟩
  exact ⟨v, ss, rfl, hS, ownsRow_base_a hrow (by simp), hnil, ((Below.refl _ w).alloc (Nat.le_refl _) _).trans (hb.mono (by simp))⟩

/-- Int keys. -/
def ikv (x : Int) : Value := .int .i64 x
def iok (x : Int) : Prop := (Lit.int .i64 x).wf = true
theorem ikok : KeyOk Try.prog 3 ikv iok where
  keyed := int_keyed Try.underlying3
  lit x hx := ⟨_, keyOf_int_mk Try.underlying3 hx⟩
  inj x y _ _ h := by simpa [ikv] using h
/-- What a map of int keys is to the library's contracts. -/
theorem Mp.owns {ν : Type} {vv : ν → Value} {f : Int → Option ν} {n : Nat} {w : World} {b : Nat} (hn : n ≤ maxLen) (h : Mp ikv vv iok f n w b) :
    ∃ (D : DataW Unit), w.ownsMap Try.prog 3 (fun _ => some (DataW.nil, [])) b n D ∧ Maps.size D ≤ n ∧ (∀ x, x ∈ intKeys D ↔ (f x).isSome = true) ∧ (intKeys D).Nodup := by
  obtain ⟨es, clock, hb, hE⟩ := h
  have hrd : ∀ e ∈ es.toList, ∃ x v, f x = some v ∧ e.key = ikv x ∧ WideElems.rd Try.prog 3 (fun _ => some (DataW.nil (H := Unit), [])) e = some (.int .i64 x, .nil) := fun e he => by
    obtain ⟨x, v, hx, h1, h2, h3⟩ := hE.ent e he
    refine ⟨x, v, h3, h1, ?_⟩
    unfold WideElems.rd
    rw [h1, show ikv x = Value.int .i64 x from rfl, keyOf_int_mk Try.underlying3 hx]
    rfl
  have F : WideElems.Fit Try.prog 3 (fun _ => some (DataW.nil (H := Unit), [])) es clock := ⟨Nat.le_trans hE.size hn, hE.stamped, fun e he => by obtain ⟨x, v, _, _, h⟩ := hrd e he; exact ⟨_, h⟩⟩
  refine ⟨_, ⟨es, clock, hb, F, hE.size, rfl⟩, ?_, ?_, ?_⟩
  · show List.length _ ≤ n
    rw [length_sorted]
    simpa using hE.size
  · intro x
    have hp := (WideShapes.sorted_perm (es.toList.map (WideElems.rg Try.prog 3 (fun _ => some (DataW.nil (H := Unit), []))))).map (fun p => _root_.Go.intOf p.1)
    show x ∈ List.map _ _ ↔ _
    rw [hp.mem_iff]
    constructor
    · intro hx
      obtain ⟨p, hp1, rfl⟩ := List.mem_map.1 hx
      obtain ⟨e, he, rfl⟩ := List.mem_map.1 hp1
      obtain ⟨y, v, hy, hk, hr⟩ := hrd e he
      rw [WideElems.rg_of hr]
      show (f y).isSome = true
      rw [hy]; rfl
    · intro hx
      obtain ⟨v, hv⟩ := Option.isSome_iff_exists.1 hx
      obtain ⟨e, he, hk⟩ := hE.has x v hv
      obtain ⟨y, v', hy, hk', hr⟩ := hrd e he
      have hxy : y = x := by have := hk'.symm.trans hk; simpa [ikv] using this
      refine List.mem_map.2 ⟨_, List.mem_map.2 ⟨e, he, rfl⟩, ?_⟩
      rw [WideElems.rg_of hr, hxy]
      rfl
  · have hp := (WideShapes.sorted_perm (es.toList.map (WideElems.rg Try.prog 3 (fun _ => some (DataW.nil (H := Unit), []))))).map (fun p => _root_.Go.intOf p.1)
    show List.Nodup (List.map _ _)
    rw [hp.nodup_iff]
    have ha := fit_apart (int_keyed Try.underlying3) F
    unfold List.Nodup
    rw [List.pairwise_map]
    refine List.Pairwise.imp_of_mem ?_ ha
    intro p q hp hq hne he
    obtain ⟨e, he1, rfl⟩ := List.mem_map.1 hp
    obtain ⟨e', he1', rfl⟩ := List.mem_map.1 hq
    obtain ⟨y, v, hy, hk, hr⟩ := hrd e he1
    obtain ⟨y', v', hy', hk', hr'⟩ := hrd e' he1'
    rw [WideElems.rg_of hr, WideElems.rg_of hr'] at hne he
    have he' : y = y' := he
    rw [he'] at hne
    exact hne rfl
end Go.Proofs.Ytnpidbodeebnkaa
