/- state.nullsMayBe: maps that count by buckets and keys. -/
import Derived.Test.YtdalkkjojflakaaQuq
import Derived.Test.YtdalkkjojflakaaOpen0
import Derived.DeepKeys4
import Derived.WideKeyEntry
namespace Go.Proofs.Ytdalkkjojflakaa
open Go.RowKit Go.Maps
set_option maxRecDepth 100000
set_option linter.unusedVariables false
set_option linter.unusedSimpArgs false
abbrev ownV (b k : ByteArray) : Value := .agg #[.string b, .string k]
theorem ownRow : (144 : TypeId) < Try.prog.types.size := of_decide_eq_true (by kernel_rfl)
theorem ownWide : (match Try.prog.underlying 144 with | some (.array _ _) | some (.struct _) => true | _ => false) = true := by rw [Try.underlying144]
theorem lawO' : WideMaps.KeyLaw Try.prog 144 := deep_law_laid laidOut (m := 2) (by omega) ownRow (by kernel_rfl) ownWide
theorem lawO : Keyed Try.prog 144 := Keyed.of_law lawO'
theorem ownType : Try.prog.keyType 144 = true := by kernel_rfl
theorem cellsO : Try.prog.cellsOf 144 = 2 := by kernel_rfl
theorem cellsSt : Try.prog.cellsOf 9 = 1 := by kernel_rfl
theorem typesN : ∃ n, Try.prog.types.size + 1 = n + 2 := by
  have h : 0 < Try.prog.types.size := Nat.lt_of_le_of_lt (Nat.zero_le _) ownRow
  exact ⟨Try.prog.types.size - 1, by omega⟩
theorem own_key {b k : ByteArray} (hb : b.size ≤ maxLen) (hk : k.size ≤ maxLen) : ∃ l, keyOf Try.prog 144 (ownV b k) = some l := by
  obtain ⟨n, hn⟩ := typesN
  unfold keyOf
  rw [Try.underlying144]
  simp only [ownType, Bool.true_and]
  rw [if_pos (by simp [Value.formed, Try.underlying144, cellsO]), hn]
  have hs : ∀ s : ByteArray, s.size ≤ maxLen → Try.prog.keyLits (n + 1) 9 [.string s] = some [.string s.data.toList] := fun s h => by
    unfold Program.keyLits
    rw [Try.underlying9]
    simp [h]
  unfold Program.keyLits
  rw [Try.underlying144]
  simp [Value.cells, cellsO, cellsSt, hs _ hb, hs _ hk]
open Go.ChangeMaps Go.WideElems in
theorem entry_run {w : World} {M n : Nat} {D : DataW Unit} (h : w.ownsMap Try.prog 144 (plainElem Try.prog 3) M n D) {key : Value} {kl : Lit} (hkey : keyOf Try.prog 144 key = some kl) :
    ∃ (v0 : Value) (st : Nat) (w1 : World), (Instr.mapEntry 142 (.map (some M)) key).run Try.prog w = .ok (.tuple #[v0, goInt st]) w1 ∧ (Instr.mapUpdate 142 (.map (some M)) key v0).run Try.prog w = .ok () w1 ∧
      (Instr.lookup 142 (.map (some M)) key false).run Try.prog w = .ok v0 w ∧ ∀ val, (Instr.entryStore 142 (.map (some M)) (goInt st) val).run Try.prog w1 = (Instr.mapUpdate 142 (.map (some M)) key val).run Try.prog w := by
  obtain ⟨es, clock, hb, F, hs, rfl⟩ := h
  obtain ⟨s1, s2, _⟩ := F.stamped
  have ht := Try.underlying142
  have hz : ∀ u : World, (zeroValue 3).run Try.prog u = .ok (.int .i64 0) u := zero3
  have sbb : ∀ a c : Obj, setBlock (setBlock w M a) M c = setBlock w M c := fun a c => by simp [setBlock]
  rcases lawO.find w hkey es.toList F.keys with ⟨h1, h2⟩ | ⟨j, e0, h1, h2, h3⟩
  · have hw1 : (setBlock w M (.map (es.push ⟨key, .int .i64 0, clock⟩) (clock + 1))).heap[M]? = some (.map (es.push ⟨key, .int .i64 0, clock⟩) (clock + 1)) := heap_setBlock_same hb _
    refine ⟨.int .i64 0, clock, setBlock w M (.map (es.push ⟨key, .int .i64 0, clock⟩) (clock + 1)), ?_, ?_, ?_, fun val => ?_⟩
    · simp [Instr.mapEntry, run_underlying ht, MapKept.run_getObj_map hb, lawO.check w false hkey, h1, hz, MapKept.run_setObj_map _ hb, Result.andThen, setBlock]
    · simp [Instr.mapUpdate, run_underlying ht, MapKept.run_getObj_map hb, lawO.check w false hkey, h1, MapKept.run_setObj_map _ hb, Result.andThen, setBlock]
    · simp [Instr.lookup, run_underlying ht, MapKept.run_getObj_map hb, lawO.check w _ hkey, h1, hz, Result.andThen]
    · have hidx : (es.push ⟨key, .int .i64 0, clock⟩).findIdx? (fun e => ((e.born : Nat) : Int) == ((clock : Nat) : Int)) = some es.size := by
        rw [findIdx_arr]
        exact findIdx_born (l := (es.push ⟨key, .int .i64 0, clock⟩).toList) (j := es.size) (e0 := ⟨key, .int .i64 0, clock⟩) (by
          simp only [Array.toList_push, List.map_append, List.map_cons, List.map_nil]
          refine List.nodup_append.2 ⟨s2, by simp, fun a ha c hc e1 => ?_⟩
          simp only [List.mem_singleton] at hc
          obtain ⟨x, hx, rfl⟩ := List.mem_map.1 ha
          have := s1 x hx
          omega) (by simp)
      have hmod : (es.push ⟨key, .int .i64 0, clock⟩).modify es.size (fun e => { e with val := val }) = es.push ⟨key, val, clock⟩ := by
        apply Array.ext'
        rw [Array.toList_modify, Array.toList_push, Array.toList_push, ← Array.length_toList, modify_last]
      have e1 : (Instr.entryStore 142 (.map (some M)) (goInt clock) val).run Try.prog (setBlock w M (.map (es.push ⟨key, .int .i64 0, clock⟩) (clock + 1))) = .ok () (setBlock (setBlock w M (.map (es.push ⟨key, .int .i64 0, clock⟩) (clock + 1))) M (.map (es.push ⟨key, val, clock⟩) (clock + 1))) := by
        simp [Instr.entryStore, MapKept.run_getObj_map hw1, asInt, asIntOf, goInt, hidx, hmod, MapKept.run_setObj_map _ hw1, Result.andThen]
        rfl
      rw [e1, sbb]
      simp [Instr.mapUpdate, run_underlying ht, MapKept.run_getObj_map hb, lawO.check w false hkey, h1, MapKept.run_setObj_map _ hb, Result.andThen, setBlock]
  · have hj : es[j]? = some e0 := by simpa using h2
    have hsame : es.modify j (fun e => { e with key := key }) = es := by
      apply Array.ext'
      rw [Array.toList_modify, modify_eq_set _ _ _ _ h2, show ({ e0 with key := key } : MapEntry) = e0 by rw [← h3]]
      exact set_self _ _ _ h2
    have hsame2 : es.modify j (fun e => { e with key := key, val := e0.val }) = es := by
      apply Array.ext'
      rw [Array.toList_modify, modify_eq_set _ _ _ _ h2, show ({ e0 with key := key, val := e0.val } : MapEntry) = e0 by rw [← h3]]
      exact set_self _ _ _ h2
    have hw1 : (setBlock w M (.map es clock)).heap[M]? = some (.map es clock) := heap_setBlock_same hb _
    refine ⟨e0.val, e0.born, setBlock w M (.map es clock), ?_, ?_, ?_, fun val => ?_⟩
    · simp [Instr.mapEntry, run_underlying ht, MapKept.run_getObj_map hb, lawO.check w false hkey, h1, hj, h3, lawO.stays w hkey, hsame, MapKept.run_setObj_map _ hb, Result.andThen, setBlock]
    · simp [Instr.mapUpdate, run_underlying ht, MapKept.run_getObj_map hb, lawO.check w false hkey, h1, hj, h3, lawO.stays w hkey, hsame2, MapKept.run_setObj_map _ hb, Result.andThen, setBlock]
    · simp [Instr.lookup, run_underlying ht, MapKept.run_getObj_map hb, lawO.check w _ hkey, h1, Result.andThen]
    · have hidx : es.findIdx? (fun e => ((e.born : Nat) : Int) == ((e0.born : Nat) : Int)) = some j := by
        rw [findIdx_arr]
        exact findIdx_born s2 h2
      have hmod : es.modify j (fun e => { e with val := val }) = es.modify j (fun e' => { e' with key := key, val := val }) := by
        apply Array.ext'
        rw [Array.toList_modify, Array.toList_modify, modify_eq_set _ _ _ _ h2, modify_eq_set _ _ _ _ h2, ← h3]
      have e1 : (Instr.entryStore 142 (.map (some M)) (goInt e0.born) val).run Try.prog (setBlock w M (.map es clock)) = .ok () (setBlock (setBlock w M (.map es clock)) M (.map (es.modify j (fun e' => { e' with key := key, val := val })) clock)) := by
        simp [Instr.entryStore, MapKept.run_getObj_map hw1, asInt, asIntOf, goInt, hidx, hmod, MapKept.run_setObj_map _ hw1, Result.andThen]
        rfl
      rw [e1, sbb]
      simp [Instr.mapUpdate, run_underlying ht, MapKept.run_getObj_map hb, lawO.check w false hkey, h1, hj, h3, lawO.stays w hkey, MapKept.run_setObj_map _ hb, Result.andThen, setBlock]
/-- Block M is a map that counts by buckets and keys. -/
def OwC (w : World) (M n : Nat) (f : ByteArray → ByteArray → Nat) : Prop :=
  ∃ D : DataW Unit, w.ownsMap Try.prog 144 (plainElem Try.prog 3) M n D ∧ IsMap D ∧ (∀ b k kl, keyOf Try.prog 144 (ownV b k) = some kl → D.atKey kl (.lit (.int .i64 0)) = .lit (.int .i64 (f b k))) ∧ ∀ b k, f b k ≤ n
section
variable {w w' : World} {M n : Nat} {f : ByteArray → ByteArray → Nat}
theorem OwC.made (w : World) : OwC (w.alloc (.map #[] 0)) w.heap.size 0 (fun _ _ => 0) := ⟨.map [], World.ownsMap_made _ _ _ _, ⟨[], rfl⟩, fun _ _ _ _ => rfl, fun _ _ => Nat.le_refl _⟩
theorem OwC.mapAt (h : OwC w M n f) : MapAt w M := by
  obtain ⟨D, ⟨es, c, h, _⟩, _⟩ := h
  exact ⟨es, c, h⟩
theorem OwC.up (h : OwC w M n f) (hb : Below w.heap.size w w') : OwC w' M n f := by
  obtain ⟨D, h1, h2⟩ := h
  exact ⟨D, h1.kept (gb_below (r := none) hb) (by simp), h2⟩
theorem OwC.look (h : OwC w M n f) {b k : ByteArray} (hb : b.size ≤ maxLen) (hk : k.size ≤ maxLen) : (Instr.lookup 142 (.map (some M)) (ownV b k) false).run Try.prog w = .ok (.int .i64 (f b k)) w := by
  obtain ⟨D, h1, h2, h3, h4⟩ := h
  obtain ⟨kl, hkl⟩ := own_key hb hk
  obtain ⟨c, hrun, hat, hwc⟩ := h1.lookup_int lawO Try.underlying142 Try.underlying3 (zero3 _) hkl
  rw [h3 b k kl hkl] at hat
  simp at hat
  rw [hrun, hat]
theorem wfNat {c : Nat} (h : c < 1000000000) : (Lit.int .i64 (c : Int)).wf = true := by
  have hlo : IntKind.i64.min = -9223372036854775808 := by decide
  have hhi : IntKind.i64.max = 9223372036854775807 := by decide
  exact (Lit.wf_int_iff .i64 _).2 ⟨by omega, by omega⟩
theorem OwC.store (h : OwC w M n f) (hn : n < 1000000) {b k : ByteArray} (hb : b.size ≤ maxLen) (hk : k.size ≤ maxLen) {c : Nat} (hc : c ≤ n + 1) (hrun : (Instr.mapUpdate 142 (.map (some M)) (ownV b k) (.int .i64 (c : Int))).run Try.prog w = .ok () w') :
    OwC w' M (n + 1) (fun b' k' => if b' = b ∧ k' = k then c else f b' k') ∧ w.grownBy w' (some M) := by
  obtain ⟨D, h1, h2, h3, h4⟩ := h
  obtain ⟨kl, hkl⟩ := own_key hb hk
  obtain ⟨w2, hrun2, r1, r2⟩ := h1.update lawO Try.underlying142 (by unfold maxLen; omega) hkl (plainElem_int Try.underlying3 (wfNat (c := c) (by omega)))
  rw [hrun] at hrun2
  injection hrun2 with _ e
  subst e
  refine ⟨⟨_, r1, ?_, fun b' k' kl' hkl' => ?_, fun b' k' => ?_⟩, r2⟩
  · obtain ⟨_, _, _, _, _, e⟩ := r1
    exact ⟨_, e⟩
  · by_cases e : b' = b ∧ k' = k
    · obtain ⟨rfl, rfl⟩ := e
      rw [hkl] at hkl'
      injection hkl' with e
      subst e
      rw [atKey_put_same h2 (lawO.key hkl)]
      simp
    · have hne : kl' ≠ kl := fun e' => by
        subst e'
        have := lawO.inj hkl' hkl
        simp at this
        exact e this
      rw [atKey_put_other hne, h3 b' k' kl' hkl']
      simp [e]
  · have := h4 b' k'
    simp only
    split <;> omega
/-- 'm[o]++', operation by operation, in whatever order. -/
theorem OwC.tick (h : OwC w M n f) (hn : n < 100000) {b k : ByteArray} (hb : b.size ≤ maxLen) (hk : k.size ≤ maxLen) :
    ∃ (st : Nat) (w1 w2 : World), (Instr.mapEntry 142 (.map (some M)) (ownV b k)).run Try.prog w = .ok (.tuple #[.int .i64 (f b k), .int .i64 st]) w1 ∧
      (Instr.lookup 142 (.map (some M)) (ownV b k) false).run Try.prog w1 = .ok (.int .i64 (f b k)) w1 ∧
      (Instr.entryStore 142 (.map (some M)) (.int .i64 st) (.int .i64 ((f b k : Int) + 1))).run Try.prog w1 = .ok () w2 ∧
      OwC w1 M (n + 1) f ∧ w.grownBy w1 (some M) ∧ OwC w2 M (n + 1) (fun b' k' => if b' = b ∧ k' = k then f b k + 1 else f b' k') ∧ w.grownBy w2 (some M) := by
  have hlk := h.look hb hk
  have hfn : f b k ≤ n := by obtain ⟨_, _, _, _, h4⟩ := h; exact h4 b k
  obtain ⟨D, h1, hrest⟩ := id h
  obtain ⟨kl, hkl⟩ := own_key hb hk
  obtain ⟨v0, st, w1, e1, e2, e3, e4⟩ := entry_run h1 hkl
  rw [hlk] at e3
  injection e3 with ev _
  subst ev
  obtain ⟨o1, g1⟩ := h.store (by omega) hb hk (c := f b k) (by omega) e2
  have hf : (fun b' k' => if b' = b ∧ k' = k then f b k else f b' k') = f := by
    funext b' k'
    by_cases e : b' = b ∧ k' = k
    · obtain ⟨rfl, rfl⟩ := e; simp
    · simp [e]
  rw [hf] at o1
  obtain ⟨w2, hrun2, _⟩ := h1.update lawO Try.underlying142 (by unfold maxLen; omega) hkl (plainElem_int Try.underlying3 (wfNat (c := f b k + 1) (by omega)))
  obtain ⟨o2, g2⟩ := h.store (by omega) hb hk (c := f b k + 1) (by omega) hrun2
  refine ⟨st, w1, w2, e1, o1.look hb hk, ?_, o1, g1, o2, g2⟩
  have := e4 (.int .i64 ((f b k + 1 : Nat) : Int))
  rw [hrun2] at this
  exact this
end
end Go.Proofs.Ytdalkkjojflakaa
