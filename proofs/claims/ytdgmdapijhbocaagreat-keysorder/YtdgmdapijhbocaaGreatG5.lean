/- state.queueMayBe. -/
import Derived.Test.YtdgmdapijhbocaaGreatG4
import Derived.Test.YtdgmdapijhbocaaGreatG1
import Derived.ProofKit
import Derived.OpenShut
import Derived.ChangeOld
import Derived.DeepKeys4
import Derived.WideKeyEntry
import Derived.Deep.DeepCutAuto
import Derived.Deep.RegionHeldLaw
import Derived.OwnWalk
import Derived.Laws.AppendOwn
namespace Go.Proofs.YtdgmdapijhbocaaGreat
open Go.RowKit Go.Maps
set_option maxRecDepth 100000
set_option linter.unusedVariables false
set_option linter.unusedSimpArgs false
/-- The version of an Id is there, and cold. -/
def coldB (S : St) (n : Int) : Bool := decide (0 ≤ firstI S.ves.length (veP S.ves n)) && (S.ves.getD (firstI S.ves.length (veP S.ves n)).toNat ve0).tier == 2
def askB (x : Ak) : Bool := inB x.days 1 1000 && inB x.cls 0 2
def queB (S : St) (pre : List Int) (x : Ak) : Bool := coldB S x.ver && ((pre ++ [x.ver]).count x.ver : Int) == 1 && askB x
set_option maxHeartbeats 2000000 in
theorem queueMayBe_1 (S : St) (b v u q g : Value) (pre : List Int) (X : Ak) (K B M : Nat) (w : World) (hC : Cnt w M pre.length (fun y => pre.count y)) (hK : w.cell? ⟨K, 0, none⟩ = some (.map (some M))) (hS : BoxS w B S b v u q g) (hV : Lst RVe 12 ve0 w v S.ves) (hX : (Lit.int .i64 X.ver).wf = true) (hn : pre.length < 1000) :
    Calls Tryz.prog 98 #[akV X, .pointer (some ⟨K, 0, none⟩), .pointer (some ⟨B, 0, none⟩)] w fun e w' => e = .returned (.bool (queB S pre X)) ∧ w.grownBy w' (some M) ∧ Cnt w' M (pre ++ [X.ver]).length (fun y => (pre ++ [X.ver]).count y) := by
  obtain ⟨va, vc, rfl, hv1, hv2⟩ := hV.form
  unfold maxLen at hv2
  have HE : Hid (queB S pre X = (coldB S X.ver && ((pre ++ [X.ver]).count X.ver : Int) == 1 && askB X)) := rfl
  have hKl := World.block_lt_of_cell? w _ hK
  have hBl := hS.lt
  simp at hKl
  obtain ⟨c, hc⟩ : ∃ c : Nat, pre.count X.ver = c := ⟨_, rfl⟩
  have hcl : c ≤ pre.length := by rw [← hc]; exact List.count_le_length
  have hC0 := hC.up (bl1 w (.cells #[.int .i64 X.ver, .int .i64 X.days, .int .i64 X.cls] 43))
  have hlk := hC0.look hX
  obtain ⟨w1, hup, hC1, hg⟩ := hC0.tick (by omega) hX
  rw [hc] at hlk hup
  rw [count_next] at hC1
  have HC1 : Hid (Cnt w1 M (pre ++ [X.ver]).length (fun y => (pre ++ [X.ver]).count y)) := by
    rw [List.length_append]; exact hC1
  have hkp : Keeps w w1 := (Keeps.of (bl1 _ _)).trans (Keeps.map hC0.mapAt hg)
  have hkx := Keeps.map hC0.mapAt hg
  have hgw : w.grownBy w1 (some M) := gb_trans (gb_below (bl1 _ _)) hg
  have hS1 := hS.keep hkp
  have hV1 : Lst RVe 12 ve0 w1 (.slice va S.ves.length vc) S.ves := hV.imp fun _ _ _ r => RVe.keep hkp r
  have hK1 := hkp _ _ hK
  have y0 := hkx ⟨w.heap.size, 0, none⟩ (.int .i64 X.ver) (by rw [World.cell?_alloc_at _ _ _ _ rfl]; rfl)
  have y1 := hkx ⟨w.heap.size, 1, none⟩ (.int .i64 X.days) (by rw [World.cell?_alloc_at _ _ _ _ rfl]; rfl)
  have y2 := hkx ⟨w.heap.size, 2, none⟩ (.int .i64 X.cls) (by rw [World.cell?_alloc_at _ _ _ _ rfl]; rfl)
  have s0 := hS1.c0
  have s1 := hS1.c1
  have s2 := hS1.c2
  have s3 := hS1.c3
  have s4 := hS1.c4
  have s5 := hS1.c5
  have s6 := hS1.c6
  have HX := hide hX
  have HV1 := hide hV1
  have HGW := hide hgw
  clear hC1 hC0 hC hc hg hkp hkx hS hV hS1 hV1 hX hgw
  have hc0 : (0 : Int) ≤ (c : Int) := Int.natCast_nonneg _
  have hc1 : (c : Int) ≤ 1000000000 := by omega
  go_enter Tryz.func98, Tryz.ntmps98
  go_wp2_with fail
  refine (findVersion_any S b _ u q g _ _ (unhide HV1)).mono ?_
  rintro e w2 ⟨rfl, hb2⟩
  have HC2 := hide ((unhide HC1).up hb2)
  have HG2 : Hid (w.grownBy w2 (some M)) := gb_trans (unhide HGW) (gb_below hb2)
  have z0 := scell_up hb2 y0
  have z1 := scell_up hb2 y1
  have z2 := scell_up hb2 y2
  have t3 := scell_up hb2 s3
  have kk := scell_up hb2 hK1
  have hlk2 := (unhide HC2).look (unhide HX)
  clear hlk hup y0 y1 y2 s0 s1 s2 s3 s4 s5 s6 hK1 hK
  have HCO : Hid (coldB S X.ver = (decide (0 ≤ firstI S.ves.length (veP S.ves X.ver)) && (S.ves.getD (firstI S.ves.length (veP S.ves X.ver)).toNat ve0).tier == 2)) := rfl
  rcases firstI_cases S.ves.length (veP S.ves X.ver) with ⟨hf, _⟩ | ⟨k, hk, hf, _, _⟩
  · have HF : Hid (queB S pre X = false) := by show _ = _; rw [unhide HE, unhide HCO, hf]; rfl
    rw [hf]
    clear hf
    go_wp2
    go_ret
    exact ⟨ret_bool (unhide HF).symm, unhide HG2, unhide HC2⟩
  · obtain ⟨b', o', hva, r⟩ := Lst.at ((unhide HV1).imp fun _ _ _ r => RVe.up hb2 r) hk
    obtain ⟨T, hT⟩ : ∃ T, (S.ves.getD k ve0).tier = T := ⟨_, rfl⟩
    have HCT : Hid (coldB S X.ver = (T == 2)) := by
      show _ = _
      rw [unhide HCO, hf, decide_eq_true (Int.natCast_nonneg k), Int.toNat_natCast, Bool.true_and, hT]
    subst hva
    have c7 := r.c7
    rw [hT] at c7
    rw [hf]
    have hk0 : (0 : Int) ≤ (k : Int) := Int.natCast_nonneg _
    have hk1 : (k : Int) < (S.ves.length : Int) := by omega
    obtain ⟨N, hN⟩ : ∃ N, S.ves.length = N := ⟨_, rfl⟩
    clear hT r hf HCO
    by_cases ht : T = 2
    · have HF : Hid (queB S pre X = (((pre ++ [X.ver]).count X.ver : Int) == 1 && askB X)) := by show _ = _; rw [unhide HE, unhide HCT, ht]; rfl
      subst ht
      obtain ⟨d, hd⟩ : ∃ d : Nat, (pre ++ [X.ver]).count X.ver = d := ⟨_, rfl⟩
      rw [hd] at hlk2 HF
      clear hd
      cases hd1 : ((d : Int) == 1)
      · rw [hd1] at HF
        go_wp2
        go_ret
        exact ⟨ret_bool (by rw [unhide HF]; rfl), unhide HG2, unhide HC2⟩
      · rw [hd1] at HF
        go_wp2_with fail
        refine (askMayBe_any X _).mono ?_
        rintro e w3 ⟨rfl, hb3⟩
        have HG3 : Hid (w.grownBy w3 (some M)) := gb_trans (unhide HG2) (gb_below hb3)
        have HC3 := hide ((unhide HC2).up hb3)
        go_wp2
        go_ret
        exact ⟨ret_bool (by rw [unhide HF]; rfl), unhide HG3, unhide HC3⟩
    · have ht2 : (T == 2) = false := by simp [ht]
      have HF : Hid (queB S pre X = false) := by show _ = _; rw [unhide HE, unhide HCT, ht2]; rfl
      go_wp2
      go_ret
      exact ⟨ret_bool (unhide HF).symm, unhide HG2, unhide HC2⟩
def vers (S : St) (k : Nat) : List Int := (S.que.take k).map (·.ver)
theorem vers_next (S : St) {k : Nat} (hk : k < S.que.length) : vers S (k + 1) = vers S k ++ [(S.que.getD k ak0).ver] := by unfold vers; rw [take_next S.que ak0 hk]; simp
def queQ (S : St) (k : Nat) : Bool := queB S (vers S k) (S.que.getD k ak0)
def queC (S : St) : Bool := decide ((S.que.length : Int) ≤ 10) && allB S.que.length (queQ S)
theorem queueMayBe_any (S : St) (b v u q g : Value) (w : World) (hS : Sta w b v u q g S) : Calls Tryz.prog 34 #[stV S b v u q g] w fun e w' => e = .returned (.bool (queC S)) ∧ Below w.heap.size w w' := by
  obtain ⟨a, cap, rfl, h1, h2⟩ := hS.que.form
  unfold maxLen at h2
  have hmm := @run_makeMap Tryz.prog
  have HS := hide hS
  clear hS
  by_cases hl : (10 : Int) < (S.que.length : Int)
  · have HC : Hid (queC S = false) := by show _ = _; unfold queC; rw [decide_eq_false (by omega)]; rfl
    go_enter Tryz.func34, Tryz.ntmps34
    go_wp2
    go_ret
    exact ⟨ret_bool (unhide HC).symm, bl1 _ _⟩
  · have HC : Hid (queC S = allB S.que.length (queQ S)) := by show _ = _; unfold queC; rw [decide_eq_true (by omega), Bool.true_and]
    go_enter Tryz.func34, Tryz.ntmps34
    go_wp2_with fail
    obtain ⟨w1, hw1⟩ : ∃ w1, w.alloc (.cells #[.int .i64 S.next, .int .i64 S.clock, b, v, u, .slice a S.que.length cap, g] 29) = w1 := ⟨_, rfl⟩
    obtain ⟨M, hM⟩ : ∃ M, w.heap.size + 1 = M := ⟨_, rfl⟩
    have hz1 : M = w1.heap.size := by rw [← hw1, ← hM]; simp
    have hb1 : Below w.heap.size w w1 := by rw [← hw1]; exact bl1 _ _
    have hX1 : BoxS w1 w.heap.size S b v u (.slice a S.que.length cap) g := by rw [← hw1]; exact BoxS.new _ _ _ _ _ _ _ _
    rw [hw1, hM]
    obtain ⟨w2, hw2⟩ : ∃ w2, (w1.alloc (.map #[] 0)).alloc (.cells #[.map (some M)] 82) = w2 := ⟨_, rfl⟩
    have hb12 : Below w1.heap.size w1 w2 := by rw [← hw2]; exact bl_alloc (bl1 _ _) _
    have hb2 : Below w.heap.size w w2 := bl_trans hb1 hb12
    have hC : Cnt w2 M 0 (fun _ => 0) := by rw [← hw2, hz1]; exact (Cnt.made w1).up (bl1 _ _)
    have hK : w2.cell? ⟨M + 1, 0, none⟩ = some (.map (some M)) := by rw [← hw2, hz1, World.cell?_alloc_at _ _ _ _ (by simp)]; rfl
    have hX2 := hX1.up hb12
    have hS2 := (unhide HS).up hb2
    rw [hw2]
    have hle : w.heap.size ≤ M := by omega
    clear hw1 hw2 hz1 hM hX1
    refine (every_queueMayBe_1 _ _ a cap S.que (queQ S) (fun k wr => Cnt wr M (vers S k).length (fun y => (vers S k).count y) ∧ w2.grownBy wr (some M)) (fun wr => w2.grownBy wr (some M)) w2 (by omega) (fun k wr hk h => Lst.at (hS2.keep (Keeps.map hC.mapAt h.2)).que hk) (fun k wr wr' h hb => ⟨h.1.up hb, gb_trans h.2 (gb_below hb)⟩) ⟨hC, gb_refl _ _⟩ (fun k wr X hk e h => ?_)).mono ?_
    · have hkp := Keeps.map hC.mapAt h.2
      obtain ⟨_, _, _, r⟩ := Lst.at hS2.que hk
      rw [e] at r
      subst e
      have hlen : (vers S k).length < 1000 := by unfold vers; simp; omega
      refine (queueMayBe_1 S b v u (.slice a S.que.length cap) g (vers S k) _ (M + 1) w.heap.size M wr h.1 (hkp _ _ hK) (hX2.keep hkp) (hS2.keep hkp).ves r.wv hlen).mono ?_
      rintro e w' ⟨rfl, hg, hc⟩
      refine ⟨rfl, fun _ => ⟨?_, gb_trans h.2 hg⟩, fun _ => gb_trans h.2 hg⟩
      rw [vers_next S hk]
      exact hc
    · rintro e w3 ⟨rfl, hy, hn⟩
      have hg3 : w2.grownBy w3 (some M) := both_ways (fun h => (hy h).2) hn
      have hbe := bl_gb hb2 hg3 hle
      clear hy hn hC hK hX2 hS2
      go_wp2
      go_ret
      exact ⟨ret_bool (unhide HC).symm, hbe⟩
end Go.Proofs.YtdgmdapijhbocaaGreat

/- What every lifting wants of the program. -/
namespace Go.Proofs.YtdgmdapijhbocaaGreat
open Go.ChangeShapes Go.WideShapes Go.ChangeAt Go.RowKit
set_option maxRecDepth 100000
set_option linter.unusedVariables false
set_option linter.unusedSimpArgs false

theorem own : ownKnob Tryz.prog.godebug = none := by kernel_rfl
theorem laidOut : laidOutB Tryz.prog = true := by kernel_rfl
theorem cellsInt : Tryz.prog.cellsOf 3 = 1 := by kernel_rfl
end Go.Proofs.YtdgmdapijhbocaaGreat

/- state.nullsMayBe: maps that count by buckets and keys. -/
namespace Go.Proofs.YtdgmdapijhbocaaGreat
open Go.RowKit Go.Maps
set_option maxRecDepth 100000
set_option linter.unusedVariables false
set_option linter.unusedSimpArgs false
abbrev ownV (b k : ByteArray) : Value := .agg #[.string b, .string k]
theorem ownRow : (162 : TypeId) < Tryz.prog.types.size := of_decide_eq_true (by kernel_rfl)
theorem ownWide : (match Tryz.prog.underlying 162 with | some (.array _ _) | some (.struct _) => true | _ => false) = true := by rw [Tryz.underlying162]
theorem lawO' : WideMaps.KeyLaw Tryz.prog 162 := deep_law_laid laidOut (m := 2) (by omega) ownRow (by kernel_rfl) ownWide
theorem lawO : Keyed Tryz.prog 162 := Keyed.of_law lawO'
theorem ownType : Tryz.prog.keyType 162 = true := by kernel_rfl
theorem cellsO : Tryz.prog.cellsOf 162 = 2 := by kernel_rfl
theorem cellsSt : Tryz.prog.cellsOf 9 = 1 := by kernel_rfl
theorem typesN : ∃ n, Tryz.prog.types.size + 1 = n + 2 := by
  have h : 0 < Tryz.prog.types.size := Nat.lt_of_le_of_lt (Nat.zero_le _) ownRow
  exact ⟨Tryz.prog.types.size - 1, by omega⟩
theorem own_key {b k : ByteArray} (hb : b.size ≤ maxLen) (hk : k.size ≤ maxLen) : ∃ l, keyOf Tryz.prog 162 (ownV b k) = some l := by
  obtain ⟨n, hn⟩ := typesN
  unfold keyOf
  rw [Tryz.underlying162]
  simp only [ownType, Bool.true_and]
  rw [if_pos (by simp [Value.formed, Tryz.underlying162, cellsO]), hn]
  have hs : ∀ s : ByteArray, s.size ≤ maxLen → Tryz.prog.keyLits (n + 1) 9 [.string s] = some [.string s.data.toList] := fun s h => by
    unfold Program.keyLits
    rw [Tryz.underlying9]
    simp [h]
  unfold Program.keyLits
  rw [Tryz.underlying162]
  simp [Value.cells, cellsO, cellsSt, hs _ hb, hs _ hk]
open Go.ChangeMaps Go.WideElems in
theorem entry_run {w : World} {M n : Nat} {D : DataW Unit} (h : w.ownsMap Tryz.prog 162 (plainElem Tryz.prog 3) M n D) {key : Value} {kl : Lit} (hkey : keyOf Tryz.prog 162 key = some kl) :
    ∃ (v0 : Value) (st : Nat) (w1 : World), (Instr.mapEntry 160 (.map (some M)) key).run Tryz.prog w = .ok (.tuple #[v0, goInt st]) w1 ∧ (Instr.mapUpdate 160 (.map (some M)) key v0).run Tryz.prog w = .ok () w1 ∧
      (Instr.lookup 160 (.map (some M)) key false).run Tryz.prog w = .ok v0 w ∧ ∀ val, (Instr.entryStore 160 (.map (some M)) (goInt st) val).run Tryz.prog w1 = (Instr.mapUpdate 160 (.map (some M)) key val).run Tryz.prog w := by
  obtain ⟨es, clock, hb, F, hs, rfl⟩ := h
  obtain ⟨s1, s2, _⟩ := F.stamped
  have ht := Tryz.underlying160
  have hz : ∀ u : World, (zeroValue 3).run Tryz.prog u = .ok (.int .i64 0) u := zero3
  have sbb : ∀ a c : Obj, setBlock (setBlock w M a) M c = setBlock w M c := fun a c => by simp [setBlock]
  rcases lawO.find w hkey es.toList F.keys with ⟨h1, h2⟩ | ⟨j, e0, h1, h2, h3⟩
  · have hw1 : (setBlock w M (.map (es.push ⟨key, .int .i64 0, clock⟩) (clock + 1))).heap[M]? = some (.map (es.push ⟨key, .int .i64 0, clock⟩) (clock + 1)) := heap_setBlock_same hb _
    refine ⟨.int .i64 0, clock, setBlock w M (.map (es.push ⟨key, .int .i64 0, clock⟩) (clock + 1)), ?_, ?_, ?_, fun val => ?_⟩
    · simp [Instr.mapEntry, run_underlying ht, MapKept.run_getObj_map hb, lawO.check w false hkey, h1, hz, MapKept.run_setObj_map _ hb, Result.andThen, setBlock]
    · simp [Instr.mapUpdate, run_underlying ht, MapKept.run_getObj_map hb, lawO.check w false hkey, h1, MapKept.run_setObj_map _ hb, Result.andThen, setBlock]
    · simp [Instr.lookup, run_underlying ht, MapKept.run_getObj_map hb, lawO.check w _ hkey, h1, hz, Result.andThen]
    · have hidx : (es.push ⟨key, .int .i64 0, clock⟩).findIdx? (fun e => ((e.born : Nat) : Int) == ((clock : Nat) : Int)) = some es.size := by
        rw [findIdx_arr]
        exact findIdx_born (l := (es.push ⟨key, .int .i64 0, clock⟩).toList) (j := es.size) (e0 := ⟨key, .int .i64 0, clock⟩) (by
          simp only [Array.toList_push, List.map_append, List.map_cons, List.map_nil]
          refine List.nodup_append.2 ⟨s2, by simp, fun a ha c hc e1 => ?_⟩
          simp only [List.mem_singleton] at hc
          obtain ⟨x, hx, rfl⟩ := List.mem_map.1 ha
          have := s1 x hx
          omega) (by simp)
      have hmod : (es.push ⟨key, .int .i64 0, clock⟩).modify es.size (fun e => { e with val := val }) = es.push ⟨key, val, clock⟩ := by
        apply Array.ext'
        rw [Array.toList_modify, Array.toList_push, Array.toList_push, ← Array.length_toList, modify_last]
      have e1 : (Instr.entryStore 160 (.map (some M)) (goInt clock) val).run Tryz.prog (setBlock w M (.map (es.push ⟨key, .int .i64 0, clock⟩) (clock + 1))) = .ok () (setBlock (setBlock w M (.map (es.push ⟨key, .int .i64 0, clock⟩) (clock + 1))) M (.map (es.push ⟨key, val, clock⟩) (clock + 1))) := by
        simp [Instr.entryStore, MapKept.run_getObj_map hw1, asInt, asIntOf, goInt, hidx, hmod, MapKept.run_setObj_map _ hw1, Result.andThen]
        rfl
      rw [e1, sbb]
      simp [Instr.mapUpdate, run_underlying ht, MapKept.run_getObj_map hb, lawO.check w false hkey, h1, MapKept.run_setObj_map _ hb, Result.andThen, setBlock]
  · have hj : es[j]? = some e0 := by simpa using h2
    have hsame : es.modify j (fun e => { e with key := key }) = es := by
      apply Array.ext'
      rw [Array.toList_modify, modify_eq_set _ _ _ _ h2, show ({ e0 with key := key } : MapEntry) = e0 by rw [← h3]]
      exact set_self _ _ _ h2
    have hsame2 : es.modify j (fun e => { e with key := key, val := e0.val }) = es := by
      apply Array.ext'
      rw [Array.toList_modify, modify_eq_set _ _ _ _ h2, show ({ e0 with key := key, val := e0.val } : MapEntry) = e0 by rw [← h3]]
      exact set_self _ _ _ h2
    have hw1 : (setBlock w M (.map es clock)).heap[M]? = some (.map es clock) := heap_setBlock_same hb _
    refine ⟨e0.val, e0.born, setBlock w M (.map es clock), ?_, ?_, ?_, fun val => ?_⟩
    · simp [Instr.mapEntry, run_underlying ht, MapKept.run_getObj_map hb, lawO.check w false hkey, h1, hj, h3, lawO.stays w hkey, hsame, MapKept.run_setObj_map _ hb, Result.andThen, setBlock]
    · simp [Instr.mapUpdate, run_underlying ht, MapKept.run_getObj_map hb, lawO.check w false hkey, h1, hj, h3, lawO.stays w hkey, hsame2, MapKept.run_setObj_map _ hb, Result.andThen, setBlock]
    · simp [Instr.lookup, run_underlying ht, MapKept.run_getObj_map hb, lawO.check w _ hkey, h1, Result.andThen]
    · have hidx : es.findIdx? (fun e => ((e.born : Nat) : Int) == ((e0.born : Nat) : Int)) = some j := by
        rw [findIdx_arr]
        exact findIdx_born s2 h2
      have hmod : es.modify j (fun e => { e with val := val }) = es.modify j (fun e' => { e' with key := key, val := val }) := by
        apply Array.ext'
        rw [Array.toList_modify, Array.toList_modify, modify_eq_set _ _ _ _ h2, modify_eq_set _ _ _ _ h2, ← h3]
      have e1 : (Instr.entryStore 160 (.map (some M)) (goInt e0.born) val).run Tryz.prog (setBlock w M (.map es clock)) = .ok () (setBlock (setBlock w M (.map es clock)) M (.map (es.modify j (fun e' => { e' with key := key, val := val })) clock)) := by
        simp [Instr.entryStore, MapKept.run_getObj_map hw1, asInt, asIntOf, goInt, hidx, hmod, MapKept.run_setObj_map _ hw1, Result.andThen]
        rfl
      rw [e1, sbb]
      simp [Instr.mapUpdate, run_underlying ht, MapKept.run_getObj_map hb, lawO.check w false hkey, h1, hj, h3, lawO.stays w hkey, MapKept.run_setObj_map _ hb, Result.andThen, setBlock]
/-- Block M is a map that counts by buckets and keys. -/
def OwC (w : World) (M n : Nat) (f : ByteArray → ByteArray → Nat) : Prop :=
  ∃ D : DataW Unit, w.ownsMap Tryz.prog 162 (plainElem Tryz.prog 3) M n D ∧ IsMap D ∧ (∀ b k kl, keyOf Tryz.prog 162 (ownV b k) = some kl → D.atKey kl (.lit (.int .i64 0)) = .lit (.int .i64 (f b k))) ∧ ∀ b k, f b k ≤ n
section
variable {w w' : World} {M n : Nat} {f : ByteArray → ByteArray → Nat}
theorem OwC.made (w : World) : OwC (w.alloc (.map #[] 0)) w.heap.size 0 (fun _ _ => 0) := ⟨.map [], World.ownsMap_made _ _ _ _, ⟨[], rfl⟩, fun _ _ _ _ => rfl, fun _ _ => Nat.le_refl _⟩
theorem OwC.mapAt (h : OwC w M n f) : MapAt w M := by
  obtain ⟨D, ⟨es, c, h, _⟩, _⟩ := h
  exact ⟨es, c, h⟩
theorem OwC.up (h : OwC w M n f) (hb : Below w.heap.size w w') : OwC w' M n f := by
  obtain ⟨D, h1, h2⟩ := h
  exact ⟨D, h1.kept (gb_below (r := none) hb) (by simp), h2⟩
theorem OwC.look (h : OwC w M n f) {b k : ByteArray} (hb : b.size ≤ maxLen) (hk : k.size ≤ maxLen) : (Instr.lookup 160 (.map (some M)) (ownV b k) false).run Tryz.prog w = .ok (.int .i64 (f b k)) w := by
  obtain ⟨D, h1, h2, h3, h4⟩ := h
  obtain ⟨kl, hkl⟩ := own_key hb hk
  obtain ⟨c, hrun, hat, hwc⟩ := h1.lookup_int lawO Tryz.underlying160 Tryz.underlying3 (zero3 _) hkl
  rw [h3 b k kl hkl] at hat
  simp at hat
  rw [hrun, hat]
theorem wfNat {c : Nat} (h : c < 1000000000) : (Lit.int .i64 (c : Int)).wf = true := by
  have hlo : IntKind.i64.min = -9223372036854775808 := by decide
  have hhi : IntKind.i64.max = 9223372036854775807 := by decide
  exact (Lit.wf_int_iff .i64 _).2 ⟨by omega, by omega⟩
theorem OwC.store (h : OwC w M n f) (hn : n < 1000000) {b k : ByteArray} (hb : b.size ≤ maxLen) (hk : k.size ≤ maxLen) {c : Nat} (hc : c ≤ n + 1) (hrun : (Instr.mapUpdate 160 (.map (some M)) (ownV b k) (.int .i64 (c : Int))).run Tryz.prog w = .ok () w') :
    OwC w' M (n + 1) (fun b' k' => if b' = b ∧ k' = k then c else f b' k') ∧ w.grownBy w' (some M) := by
  obtain ⟨D, h1, h2, h3, h4⟩ := h
  obtain ⟨kl, hkl⟩ := own_key hb hk
  obtain ⟨w2, hrun2, r1, r2⟩ := h1.update lawO Tryz.underlying160 (by unfold maxLen; omega) hkl (plainElem_int Tryz.underlying3 (wfNat (c := c) (by omega)))
  rw [hrun] at hrun2
  injection hrun2 with _ e
  subst e
  refine ⟨⟨_, r1, ?_, fun b' k' kl' hkl' => ?_, fun b' k' => ?_⟩, r2⟩
  · obtain ⟨_, _, _, _, _, e⟩ := r1
    exact ⟨_, e⟩
  · by_cases e : b' = b ∧ k' = k
    · obtain ⟨rfl, rfl⟩ := e
      rw [hkl] at hkl'
      injection hkl' with e
      subst e
      rw [atKey_put_same h2 (lawO.key hkl)]
      simp
    · have hne : kl' ≠ kl := fun e' => by
        subst e'
        have := lawO.inj hkl' hkl
        simp at this
        exact e this
      rw [atKey_put_other hne, h3 b' k' kl' hkl']
      simp [e]
  · have := h4 b' k'
    simp only
    split <;> omega
/-- 'm[o]++', operation by operation, in whatever order. -/
theorem OwC.tick (h : OwC w M n f) (hn : n < 100000) {b k : ByteArray} (hb : b.size ≤ maxLen) (hk : k.size ≤ maxLen) :
    ∃ (st : Nat) (w1 w2 : World), (Instr.mapEntry 160 (.map (some M)) (ownV b k)).run Tryz.prog w = .ok (.tuple #[.int .i64 (f b k), .int .i64 st]) w1 ∧
      (Instr.lookup 160 (.map (some M)) (ownV b k) false).run Tryz.prog w1 = .ok (.int .i64 (f b k)) w1 ∧
      (Instr.entryStore 160 (.map (some M)) (.int .i64 st) (.int .i64 ((f b k : Int) + 1))).run Tryz.prog w1 = .ok () w2 ∧
      OwC w1 M (n + 1) f ∧ w.grownBy w1 (some M) ∧ OwC w2 M (n + 1) (fun b' k' => if b' = b ∧ k' = k then f b k + 1 else f b' k') ∧ w.grownBy w2 (some M) := by
  have hlk := h.look hb hk
  have hfn : f b k ≤ n := by obtain ⟨_, _, _, _, h4⟩ := h; exact h4 b k
  obtain ⟨D, h1, hrest⟩ := id h
  obtain ⟨kl, hkl⟩ := own_key hb hk
  obtain ⟨v0, st, w1, e1, e2, e3, e4⟩ := entry_run h1 hkl
  rw [hlk] at e3
  injection e3 with ev _
  subst ev
  obtain ⟨o1, g1⟩ := h.store (by omega) hb hk (c := f b k) (by omega) e2
  have hf : (fun b' k' => if b' = b ∧ k' = k then f b k else f b' k') = f := by
    funext b' k'
    by_cases e : b' = b ∧ k' = k
    · obtain ⟨rfl, rfl⟩ := e; simp
    · simp [e]
  rw [hf] at o1
  obtain ⟨w2, hrun2, _⟩ := h1.update lawO Tryz.underlying160 (by unfold maxLen; omega) hkl (plainElem_int Tryz.underlying3 (wfNat (c := f b k + 1) (by omega)))
  obtain ⟨o2, g2⟩ := h.store (by omega) hb hk (c := f b k + 1) (by omega) hrun2
  refine ⟨st, w1, w2, e1, o1.look hb hk, ?_, o1, g1, o2, g2⟩
  have := e4 (.int .i64 ((f b k + 1 : Nat) : Int))
  rw [hrun2] at this
  exact this
end
end Go.Proofs.YtdgmdapijhbocaaGreat

/- state.nullsMayBe: the walk. -/
namespace Go.Proofs.YtdgmdapijhbocaaGreat
open Go.RowKit Go.Maps
set_option maxRecDepth 100000
set_option linter.unusedVariables false
set_option linter.unusedSimpArgs false
set_option maxHeartbeats 1000000 in
theorem nullsMayBe_1 (X : Ve) (ua : Option Addr) (un uc K M n : Nat) (f : ByteArray → ByteArray → Nat) (w : World) (hC : OwC w M n f) (hn : n < 1000) (hK : w.cell? ⟨K, 0, none⟩ = some (.map (some M))) (hb : X.bu.size ≤ maxLen) (hk : X.ke.size ≤ maxLen) (hX : X.nul = true) :
    Calls Tryz.prog 141 #[veV X (.slice ua un uc), .pointer (some ⟨K, 0, none⟩)] w fun e w' => e = .returned (.bool (((f X.bu X.ke : Int) + 1) == 1)) ∧ w.grownBy w' (some M) ∧ OwC w' M (n + 1) (fun b' k' => if b' = X.bu ∧ k' = X.ke then f X.bu X.ke + 1 else f b' k') := by
  obtain ⟨c, hc⟩ : ∃ c : Nat, f X.bu X.ke = c := ⟨_, rfl⟩
  rw [hc]
  have HC := hide hc
  clear hc
  have hKl := World.block_lt_of_cell? w _ hK
  simp at hKl
  go_enter Tryz.func141, Tryz.ntmps141
  go_upto_region 4 with fail
  rw [show (X.nul : Bool) = true from hX] at *
  obtain ⟨W0, hW0⟩ : ∃ W0, (w.alloc (.cells #[.int .i64 X.id, .string X.bu, .string X.ke, .bool true, .bool X.mar, .int .i64 X.size, .int .i64 X.time, .int .i64 X.tier, .slice ua un uc, .int .i64 X.vol, .int .i64 X.pos, .int .i64 X.til] 36)).alloc (.cells #[.string X.bu, .string X.ke] 162) = W0 := ⟨_, rfl⟩
  have hb0 : Below w.heap.size w W0 := by rw [← hW0]; exact bl_alloc (bl1 _ _) _
  have hK0 := scell_up hb0 hK
  have k0 : W0.cell? ⟨w.heap.size + 1, 0, none⟩ = some (.string X.bu) := by rw [← hW0, World.cell?_alloc_at _ _ _ _ (by simp)]; rfl
  have k1 : W0.cell? ⟨w.heap.size + 1, 1, none⟩ = some (.string X.ke) := by rw [← hW0, World.cell?_alloc_at _ _ _ _ (by simp)]; rfl
  rw [hW0]
  obtain ⟨s, hs⟩ : ∃ s, w.heap.size + 1 = s := ⟨_, rfl⟩
  rw [hs] at k0 k1 ⊢
  clear hW0 hs
  have hC0 : OwC W0.drew M n f := hC.up (hb0.drew)
  have hlk := hC0.look hb hk
  obtain ⟨st, w1, w2, e1, e2, e3, o1, g1, o2, g2⟩ := hC0.tick (by omega) hb hk
  have hc := unhide HC
  have hcn : c ≤ n := by obtain ⟨_, _, _, _, h4⟩ := hC; rw [← hc]; exact h4 _ _
  have hkp : Keeps W0.drew w2 := Keeps.map hC0.mapAt g2
  have hk2 := hkp ⟨K, 0, none⟩ _ hK0
  have k02 := hkp ⟨s, 0, none⟩ _ k0
  have k12 := hkp ⟨s, 1, none⟩ _ k1
  have hlk2 := o2.look hb hk
  simp only [and_self, if_true] at hlk2
  rw [hc] at hlk e1 e2 e3 o2 hlk2
  clear hc
  have HG : Hid (w.grownBy w2 (some M)) := gb_trans (gb_below hb0.drew) g2
  have HO := hide o2
  clear hC hC0 o1 o2 g1 g2 hkp hK hb0 hX
  have hc0 : (0 : Int) ≤ (c : Int) := Int.natCast_nonneg _
  have hc1 : (c : Int) ≤ 1000000000 := by omega
  go_region
  all_goals
    go_wp2
    go_ret
    exact ⟨rfl, unhide HG, unhide HO⟩
end Go.Proofs.YtdgmdapijhbocaaGreat

/- state.versionMayBe, partsMayBe and what uploads ask. -/
namespace Go.Proofs.YtdgmdapijhbocaaGreat
open Go.RowKit
set_option maxRecDepth 100000
set_option linter.unusedVariables false
set_option linter.unusedSimpArgs false
/-- The two boxes of a state and a version. -/
theorem boxes {w w1 : World} {c0 c1 : Array Value} {t0 t1 : TypeId} (hb : Below ((w.alloc (.cells c0 t0)).alloc (.cells c1 t1)).heap.size ((w.alloc (.cells c0 t0)).alloc (.cells c1 t1)) w1) : (∀ j v, c0[j]? = some v → w1.cell? ⟨w.heap.size, j, none⟩ = some v) ∧ (∀ j v, c1[j]? = some v → w1.cell? ⟨w.heap.size + 1, j, none⟩ = some v) :=
  ⟨fun j v h => box2a hb j h, fun j v h => box2b hb j h⟩
set_option maxHeartbeats 4000000 in
theorem versionMayBe_any (S : St) (b v u q g : Value) (X : Ve) (ua : Option Addr) (un uc : Nat) (w : World) (hB : Lst RBu 5 bu0 w b S.bus) (hG : Ints w g S.gone) (hI : Ints w (.slice ua un uc) X.sec) (hk : X.ke.size ≤ maxLen) (hx : 1 ≤ S.next) (hx2 : S.next ≤ 1048576) :
    Calls Tryz.prog 89 #[stV S b v u q g, veV X (.slice ua un uc)] w fun e w' => e = .returned (.bool (veC S X)) ∧ Below w.heap.size w w' := by
  obtain ⟨hn, hc, hm⟩ := hI.len
  have HN := hide hn
  unfold maxLen at hm
  have hnn : un ≤ 9223372036854775807 := by omega
  have HB := hide hB
  have HG := hide hG
  clear hB hG hI hn hc hm
  obtain ⟨V, hV⟩ : ∃ V, veC S X = V := ⟨_, rfl⟩
  rw [hV]
  have HV := hide hV
  clear hV
  go_enter Tryz.func89, Tryz.ntmps89
  go_wp2_with fail
  refine (namesMayBe_any S b v u q g _ _ _ _ ((unhide HB).imp fun _ _ _ r => RBu.up (bl_alloc (bl1 _ _) _) r) hk hx hx2).mono ?_
  rintro e w1 ⟨rfl, hb1⟩
  have hw : Below w.heap.size w w1 := bl_trans (bl_alloc (bl1 _ _) _) hb1
  obtain ⟨cS, cX⟩ := boxes hb1
  have s0 := cS 0 _ rfl
  have s1 := cS 1 _ rfl
  have s2 := cS 2 _ rfl
  have s3 := cS 3 _ rfl
  have s4 := cS 4 _ rfl
  have s5 := cS 5 _ rfl
  have s6 := cS 6 _ rfl
  have x0 := cX 0 _ rfl
  have x1 := cX 1 _ rfl
  have x2 := cX 2 _ rfl
  have x3 := cX 3 _ rfl
  have x4 := cX 4 _ rfl
  have x5 := cX 5 _ rfl
  have x6 := cX 6 _ rfl
  have x7 := cX 7 _ rfl
  have x8 := cX 8 _ rfl
  have x9 := cX 9 _ rfl
  have x10 := cX 10 _ rfl
  have x11 := cX 11 _ rfl

  clear cS cX hb1
  cases h1 : namC S X.id X.bu X.ke
  · have HE : Hid (V = false) := by rw [← unhide HV]; exact veC_n h1
    clear h1
    go_wp2
    go_ret
    exact ⟨ret_bool (unhide HE).symm, hw⟩
  have HN1 := hide h1
  clear h1
  go_wp2_with fail
  refine (within_any _ _ _ _).mono ?_
  rintro e w2 ⟨rfl, rfl⟩
  cases h2 : inB X.time 0 S.clock
  · have HE : Hid (V = false) := by rw [← unhide HV]; exact veC_t h2
    clear h2
    go_wp2
    go_ret
    exact ⟨ret_bool (unhide HE).symm, hw⟩
  have HN2 := hide h2
  clear h2
  cases hM : X.mar
  · rw [hM] at x4
    have HM := hide hM
    clear hM
    go_wp2_with fail
    refine (within_any _ _ _ _).mono ?_
    rintro e w2 ⟨rfl, rfl⟩
    cases hS : inB X.size 0 600
    · have HE : Hid (V = false) := by rw [← unhide HV]; exact veC_s (unhide HM) hS
      clear hS
      go_wp2
      go_ret
      exact ⟨ret_bool (unhide HE).symm, hw⟩
    have HS := hide hS
    obtain ⟨z0, z1⟩ := inB_t hS
    clear hS
    by_cases t1 : X.tier = 1
    · have HE : Hid (V = ((un : Int) == secN X.size && (X.vol == 0 && X.pos == 0) && X.til == 0)) := by rw [← unhide HV, unhide HN]; exact veC_1 (unhide HN1) (unhide HN2) (unhide HM) (unhide HS) t1
      rw [t1] at x7
      clear t1
      go_wp2_with fail
      refine (rightMany_any _ _ _ _ _ hnn (by omega) (by omega)).mono ?_
      rintro e w2 ⟨rfl, rfl⟩
      cases r1 : ((un : Int) == secN X.size)
      · rw [r1] at HE
        clear r1
        go_wp2
        go_ret
        exact ⟨ret_bool (by rw [unhide HE]; first | rfl | simp), hw⟩
      rw [r1] at HE
      clear r1
      go_wp2_with fail
      refine (offTape_any { X with mar := false, tier := 1 } _ _).mono ?_
      rintro e w2 ⟨he, hb2⟩
      have he2 : e = .returned (.bool (X.vol == 0 && X.pos == 0)) := he
      clear he
      subst he2
      have xa11 := scell_up hb2 x11
      clear s0 s1 s2 s3 s4 s5 s6 x0 x1 x2 x3 x4 x5 x6 x7 x8 x9 x10 x11
      cases r2 : (X.vol == 0 && X.pos == 0)
      · rw [r2] at HE
        clear r2
        go_wp2
        go_ret
        exact ⟨ret_bool (by rw [unhide HE]; first | rfl | simp), bl_trans hw hb2⟩
      rw [r2] at HE
      clear r2
      go_wp2
      go_ret
      exact ⟨ret_bool (by rw [unhide HE]; first | rfl | simp), bl_trans hw hb2⟩
    have nt1 : (X.tier == 1) = false := by simp [t1]
    by_cases t2 : X.tier = 2
    · have HE : Hid (V = ((un : Int) == 0 && onC S X && X.til == 0)) := by rw [← unhide HV, unhide HN]; exact veC_2 (unhide HN1) (unhide HN2) (unhide HM) (unhide HS) t2
      rw [t2] at x7
      clear t1 t2 nt1
      go_wp2_with fail
      refine (offDisk_any { X with mar := false, tier := 2 } _ _ _ _ hnn).mono ?_
      rintro e w2 ⟨rfl, hb2⟩
      have sa0 := scell_up hb2 s0
      have sa1 := scell_up hb2 s1
      have sa2 := scell_up hb2 s2
      have sa3 := scell_up hb2 s3
      have sa4 := scell_up hb2 s4
      have sa5 := scell_up hb2 s5
      have sa6 := scell_up hb2 s6
      have xa0 := scell_up hb2 x0
      have xa1 := scell_up hb2 x1
      have xa2 := scell_up hb2 x2
      have xa3 := scell_up hb2 x3
      have xa4 := scell_up hb2 x4
      have xa5 := scell_up hb2 x5
      have xa6 := scell_up hb2 x6
      have xa7 := scell_up hb2 x7
      have xa8 := scell_up hb2 x8
      have xa9 := scell_up hb2 x9
      have xa10 := scell_up hb2 x10
      have xa11 := scell_up hb2 x11
      clear s0 s1 s2 s3 s4 s5 s6 x0 x1 x2 x3 x4 x5 x6 x7 x8 x9 x10 x11
      cases r1 : ((un : Int) == 0)
      · rw [r1] at HE
        clear r1
        go_wp2
        go_ret
        exact ⟨ret_bool (by rw [unhide HE]; first | rfl | simp), bl_trans hw hb2⟩
      rw [r1] at HE
      clear r1
      go_wp2_with fail
      refine (onTape_any S b v u q g { X with mar := false, tier := 2 } _ _ (Ints.up (bl_trans hw hb2) (unhide HG))).mono ?_
      rintro e w3 ⟨he, hb3⟩
      have he2 : e = .returned (.bool (onC S X)) := he
      clear he
      subst he2
      have xb11 := scell_up hb3 xa11
      clear sa0 sa1 sa2 sa3 sa4 sa5 sa6 xa0 xa1 xa2 xa3 xa4 xa5 xa6 xa7 xa8 xa9 xa10 xa11
      cases r2 : onC S X
      · rw [r2] at HE
        clear r2
        go_wp2
        go_ret
        exact ⟨ret_bool (by rw [unhide HE]; first | rfl | simp), bl_trans hw (bl_trans hb2 hb3)⟩
      rw [r2] at HE
      clear r2
      go_wp2
      go_ret
      exact ⟨ret_bool (by rw [unhide HE]; first | rfl | simp), bl_trans hw (bl_trans hb2 hb3)⟩
    have nt2 : (X.tier == 2) = false := by simp [t2]
    by_cases t3 : X.tier = 3
    · have HE : Hid (V = ((un : Int) == secN X.size && onC S X && inB X.til 0 1073742824)) := by rw [← unhide HV, unhide HN]; exact veC_3 (unhide HN1) (unhide HN2) (unhide HM) (unhide HS) t3
      rw [t3] at x7
      clear t1 t2 t3 nt1 nt2
      go_wp2_with fail
      refine (rightMany_any _ _ _ _ _ hnn (by omega) (by omega)).mono ?_
      rintro e w2 ⟨rfl, rfl⟩
      cases r1 : ((un : Int) == secN X.size)
      · rw [r1] at HE
        clear r1
        go_wp2
        go_ret
        exact ⟨ret_bool (by rw [unhide HE]; first | rfl | simp), hw⟩
      rw [r1] at HE
      clear r1
      go_wp2_with fail
      refine (onTape_any S b v u q g { X with mar := false, tier := 3 } _ _ (Ints.up hw (unhide HG))).mono ?_
      rintro e w3 ⟨he, hb3⟩
      have he2 : e = .returned (.bool (onC S X)) := he
      clear he
      subst he2
      have xb11 := scell_up hb3 x11
      clear s0 s1 s2 s3 s4 s5 s6 x0 x1 x2 x3 x4 x5 x6 x7 x8 x9 x10 x11
      cases r2 : onC S X
      · rw [r2] at HE
        clear r2
        go_wp2
        go_ret
        exact ⟨ret_bool (by rw [unhide HE]; first | rfl | simp), bl_trans hw hb3⟩
      rw [r2] at HE
      clear r2
      go_wp2_with fail
      refine (within_any _ _ _ _).mono ?_
      rintro e w2 ⟨rfl, rfl⟩
      go_wp2
      go_ret
      exact ⟨ret_bool (by rw [unhide HE]; first | rfl | simp), bl_trans hw hb3⟩
    have nt3 : (X.tier == 3) = false := by simp [t3]
    have HE : Hid (V = false) := by rw [← unhide HV]; exact veC_0 (unhide HM) t1 t2 t3
    clear t1 t2 t3
    go_wp2
    go_ret
    exact ⟨ret_bool (unhide HE).symm, hw⟩
  · have HE : Hid (V = (X.size == 0 && X.tier == 0 && (un : Int) == 0 && (X.vol == 0 && X.pos == 0) && X.til == 0)) := by rw [← unhide HV, unhide HN]; exact veC_m (unhide HN1) (unhide HN2) hM
    rw [hM] at x4
    clear hM
    cases r1 : (X.size == 0)
    · rw [r1] at HE
      go_wp2
      go_ret
      exact ⟨ret_bool (by rw [unhide HE]; first | rfl | simp), hw⟩
    rw [r1] at HE
    cases r2 : (X.tier == 0)
    · rw [r2] at HE
      go_wp2
      go_ret
      exact ⟨ret_bool (by rw [unhide HE]; first | rfl | simp), hw⟩
    rw [r2] at HE
    go_wp2_with fail
    refine (offDisk_any { X with mar := true } _ _ _ _ hnn).mono ?_
    rintro e w2 ⟨rfl, hb2⟩
    have sa0 := scell_up hb2 s0
    have sa1 := scell_up hb2 s1
    have sa2 := scell_up hb2 s2
    have sa3 := scell_up hb2 s3
    have sa4 := scell_up hb2 s4
    have sa5 := scell_up hb2 s5
    have sa6 := scell_up hb2 s6
    have xa0 := scell_up hb2 x0
    have xa1 := scell_up hb2 x1
    have xa2 := scell_up hb2 x2
    have xa3 := scell_up hb2 x3
    have xa4 := scell_up hb2 x4
    have xa5 := scell_up hb2 x5
    have xa6 := scell_up hb2 x6
    have xa7 := scell_up hb2 x7
    have xa8 := scell_up hb2 x8
    have xa9 := scell_up hb2 x9
    have xa10 := scell_up hb2 x10
    have xa11 := scell_up hb2 x11
    clear s0 s1 s2 s3 s4 s5 s6 x0 x1 x2 x3 x4 x5 x6 x7 x8 x9 x10 x11
    cases r3 : ((un : Int) == 0)
    · rw [r3] at HE
      clear r3
      go_wp2
      go_ret
      exact ⟨ret_bool (by rw [unhide HE]; first | rfl | simp), bl_trans hw hb2⟩
    rw [r3] at HE
    clear r3
    go_wp2_with fail
    refine (offTape_any { X with mar := true } _ _).mono ?_
    rintro e w3 ⟨he, hb3⟩
    have he2 : e = .returned (.bool (X.vol == 0 && X.pos == 0)) := he
    clear he
    subst he2
    have xb11 := scell_up hb3 xa11
    clear sa0 sa1 sa2 sa3 sa4 sa5 sa6 xa0 xa1 xa2 xa3 xa4 xa5 xa6 xa7 xa8 xa9 xa10 xa11
    cases r4 : (X.vol == 0 && X.pos == 0)
    · rw [r4] at HE
      clear r4
      go_wp2
      go_ret
      exact ⟨ret_bool (by rw [unhide HE]; first | rfl | simp), bl_trans hw (bl_trans hb2 hb3)⟩
    rw [r4] at HE
    clear r4
    go_wp2
    go_ret
    exact ⟨ret_bool (by rw [unhide HE]; first | rfl | simp), bl_trans hw (bl_trans hb2 hb3)⟩
end Go.Proofs.YtdgmdapijhbocaaGreat

/- state.nullsMayBe, versionsMayBe, Check: whatever the state. -/
namespace Go.Proofs.YtdgmdapijhbocaaGreat
open Go.RowKit Go.Maps
set_option maxRecDepth 100000
set_option linter.unusedVariables false
set_option linter.unusedSimpArgs false
theorem nullsMayBe_1f (X : Ve) (ua : Option Addr) (un uc K : Nat) (w : World) (hX : X.nul = false) :
    Calls Tryz.prog 141 #[veV X (.slice ua un uc), .pointer (some ⟨K, 0, none⟩)] w fun e w' => e = .returned (.bool true) ∧ Below w.heap.size w w' := by
  go_enter Tryz.func141, Tryz.ntmps141
  go_wp2
  go_ret
  exact ⟨rfl, bl1 _ _⟩
theorem OwC.mono {w : World} {M n n' : Nat} {f : ByteArray → ByteArray → Nat} (h : OwC w M n f) (hn : n ≤ n') : OwC w M n' f := by
  obtain ⟨D, h1, h2, h3, h4⟩ := h
  exact ⟨D, h1.mono hn, h2, h3, fun b k => Nat.le_trans (h4 b k) hn⟩
def nulF (l : List Ve) (k : Nat) (b ke : ByteArray) : Nat := (l.take k).countP (fun v => v.nul && decide (v.bu = b) && decide (v.ke = ke))
theorem nulF_next (l : List Ve) {k : Nat} (hk : k < l.length) (b ke : ByteArray) : nulF l (k + 1) b ke = nulF l k b ke + if ((l.getD k ve0).nul && decide ((l.getD k ve0).bu = b) && decide ((l.getD k ve0).ke = ke)) = true then 1 else 0 := by
  unfold nulF
  rw [take_next l ve0 hk, List.countP_append, List.countP_singleton]
theorem nulF_no (l : List Ve) {k : Nat} (hk : k < l.length) (h : (l.getD k ve0).nul = false) : nulF l (k + 1) = nulF l k := by
  funext b ke
  rw [nulF_next l hk, h]
  simp
theorem nulF_yes (l : List Ve) {k : Nat} (hk : k < l.length) (h : (l.getD k ve0).nul = true) : nulF l (k + 1) = fun b' k' => if b' = (l.getD k ve0).bu ∧ k' = (l.getD k ve0).ke then nulF l k (l.getD k ve0).bu (l.getD k ve0).ke + 1 else nulF l k b' k' := by
  funext b ke
  rw [nulF_next l hk]
  obtain ⟨X, hX⟩ : ∃ X, l.getD k ve0 = X := ⟨_, rfl⟩
  rw [hX] at h ⊢
  rw [h]
  by_cases e : b = X.bu ∧ ke = X.ke
  · rw [if_pos e, e.1, e.2]
    simp
  · rw [if_neg e]
    have : ¬ (X.bu = b ∧ X.ke = ke) := fun c => e ⟨c.1.symm, c.2.symm⟩
    simp
    exact fun c d => this ⟨c, d⟩
def nulQ (l : List Ve) (k : Nat) : Bool := !(l.getD k ve0).nul || ((nulF l k (l.getD k ve0).bu (l.getD k ve0).ke : Int) + 1) == 1
def nulC (l : List Ve) : Bool := allB l.length (nulQ l)
theorem nullsMayBe_any (vv : Value) (l : List Ve) (w : World) (hL : Lst RVe 12 ve0 w vv l) (hl : l.length ≤ 40) : Calls Tryz.prog 90 #[vv] w fun e w' => e = .returned (.bool (nulC l)) ∧ Below w.heap.size w w' := by
  obtain ⟨a, cap, rfl, h1, h2⟩ := hL.form
  have hmm := @run_makeMap Tryz.prog
  have HL := hide hL
  clear hL h1 h2
  go_enter Tryz.func90, Tryz.ntmps90
  go_wp2_with fail
  obtain ⟨M, hM⟩ : ∃ M, w.heap.size = M := ⟨_, rfl⟩
  rw [hM]
  obtain ⟨w2, hw2⟩ : ∃ w2, (w.alloc (.map #[] 0)).alloc (.cells #[.map (some M)] 160) = w2 := ⟨_, rfl⟩
  have hb2 : Below w.heap.size w w2 := by rw [← hw2]; exact bl_alloc (bl1 _ _) _
  have hC : OwC w2 M 0 (nulF l 0) := by rw [← hw2, ← hM]; exact (OwC.made w).up (bl1 _ _)
  have hK : w2.cell? ⟨M + 1, 0, none⟩ = some (.map (some M)) := by rw [← hw2, ← hM, World.cell?_alloc_at _ _ _ _ (by simp)]; rfl
  have hL2 : Lst RVe 12 ve0 w2 (.slice a l.length cap) l := (unhide HL).imp fun _ _ _ r => RVe.up hb2 r
  rw [hw2]
  have hle : w.heap.size ≤ M := by omega
  clear hw2 hM
  refine (every_nullsMayBe_1 _ a cap l (nulQ l) (fun k wr => OwC wr M k (nulF l k) ∧ w2.grownBy wr (some M)) (fun wr => w2.grownBy wr (some M)) w2 (by omega) (fun k wr hk h => Lst.at (hL2.imp fun _ _ _ r => RVe.keep (Keeps.map hC.mapAt h.2) r) hk) (fun k wr wr' h hb => ⟨h.1.up hb, gb_trans h.2 (gb_below hb)⟩) ⟨hC, gb_refl _ _⟩ (fun k wr X ua un uc hk e h hi => ?_)).mono ?_
  · have hkp := Keeps.map hC.mapAt h.2
    obtain ⟨_, _, _, r⟩ := Lst.at hL2 hk
    rw [e] at r
    subst e
    cases hX : (l.getD k ve0).nul
    · refine (nullsMayBe_1f _ _ _ _ _ wr hX).mono ?_
      rintro e w' ⟨rfl, hb⟩
      have hq : nulQ l k = true := by unfold nulQ; rw [hX]; rfl
      rw [hq]
      refine ⟨rfl, fun _ => ⟨?_, gb_trans h.2 (gb_below hb)⟩, fun _ => gb_trans h.2 (gb_below hb)⟩
      rw [nulF_no l hk hX]
      exact (h.1.up hb).mono (Nat.le_succ _)
    · refine (nullsMayBe_1 _ _ _ _ _ M k (nulF l k) wr h.1 (by omega) (hkp _ _ hK) r.s1 r.s2 hX).mono ?_
      rintro e w' ⟨rfl, hg, hc⟩
      have hq : nulQ l k = (((nulF l k (l.getD k ve0).bu (l.getD k ve0).ke : Int) + 1) == 1) := by unfold nulQ; rw [hX]; rfl
      rw [hq]
      refine ⟨rfl, fun _ => ⟨?_, gb_trans h.2 hg⟩, fun _ => gb_trans h.2 hg⟩
      rw [nulF_yes l hk hX]
      exact hc
  · rintro e w3 ⟨rfl, hy, hn⟩
    have hg3 : w2.grownBy w3 (some M) := both_ways (fun h => (hy h).2) hn
    have hbe := bl_gb hb2 hg3 hle
    clear hy hn hC hK hL2
    go_wp2
    go_ret
    exact ⟨rfl, hbe⟩
theorem versionsMayBe_2 (S : St) (b v u q g : Value) (B : Nat) (X : Ve) (ua : Option Addr) (un uc : Nat) (w : World) (hS : BoxS w B S b v u q g) (hB : Lst RBu 5 bu0 w b S.bus) (hG : Ints w g S.gone) (hI : Ints w (.slice ua un uc) X.sec) (hk : X.ke.size ≤ maxLen) (hx : 1 ≤ S.next) (hx2 : S.next ≤ 1048576) :
    Calls Tryz.prog 88 #[veV X (.slice ua un uc), .pointer (some ⟨B, 0, none⟩)] w fun e w' => e = .returned (.bool (veC S X)) ∧ Below w.heap.size w w' := by
  have hlt := hS.lt
  have c0 := hS.c0
  have c1 := hS.c1
  have c2 := hS.c2
  have c3 := hS.c3
  have c4 := hS.c4
  have c5 := hS.c5
  have c6 := hS.c6
  have HB := hide hB
  have HI := hide hI
  have HG := hide hG
  clear hS hB hI hG
  go_enter Tryz.func88, Tryz.ntmps88
  go_wp2_with fail
  refine (versionMayBe_any S b v u q g X ua un uc _ ((unhide HB).imp fun _ _ _ r => RBu.up (bl1 _ _) r) (Ints.up (bl1 _ _) (unhide HG)) (Ints.up (bl1 _ _) (unhide HI)) hk hx hx2).mono ?_
  rintro e w1 ⟨rfl, hb1⟩
  go_wp2
  go_ret
  exact ⟨rfl, bl_trans (bl1 _ _) hb1⟩
def vesP (l : List Ve) (i : Nat) : Bool := decide ((l.getD i ve0).id < (l.getD (i + 1) ve0).id)
def vesQ (S : St) (i : Nat) : Bool := veC S (S.ves.getD i ve0)
def vesC (S : St) : Bool := decide ((S.ves.length : Int) ≤ 40) && allB (S.ves.length - 1) (vesP S.ves) && allB S.ves.length (vesQ S) && nulC S.ves
set_option maxHeartbeats 1000000 in
theorem versionsMayBe_any (S : St) (b v u q g : Value) (w : World) (hS : Sta w b v u q g S) (hx : 1 ≤ S.next) (hx2 : S.next ≤ 1048576) : Calls Tryz.prog 32 #[stV S b v u q g] w fun e w' => e = .returned (.bool (vesC S)) ∧ Below w.heap.size w w' := by
  obtain ⟨a, cap, rfl, h1, h2⟩ := hS.ves.form
  unfold maxLen at h2
  have HS := hide hS
  clear hS
  by_cases hl : (S.ves.length : Int) ≤ 40
  · have HC : Hid (vesC S = (allB (S.ves.length - 1) (vesP S.ves) && allB S.ves.length (vesQ S) && nulC S.ves)) := by show _ = _; unfold vesC; rw [decide_eq_true hl, Bool.true_and]
    go_enter Tryz.func32, Tryz.ntmps32
    go_wp2_with fail
    refine (rise_versionsMayBe_1 a cap S.ves (vesP S.ves) _ ((unhide HS).ves.imp fun _ _ _ r => RVe.up (bl1 _ _) r) (by omega) (fun k wr X Y _ _ _ _ _ _ h e1 e2 => by subst e1 e2; exact versionsMayBe_1 _ _ _ _ _ _ _ _ _)).mono ?_
    rintro e w1 ⟨rfl, hb⟩
    have HX := hide ((BoxS.new w S b (.slice a S.ves.length cap) u q g 29).up hb)
    have x3 := (unhide HX).c3
    cases hr : allB (S.ves.length - 1) (vesP S.ves)
    · rw [hr] at HC
      go_wp2
      go_ret
      exact ⟨ret_bool (by rw [unhide HC]; rfl), bl_trans (bl1 _ _) hb⟩
    · rw [hr] at HC
      clear hr
      go_wp2_with fail
      refine (every_versionsMayBe_2 _ a cap S.ves (vesQ S) (fun _ wr => Below w1.heap.size w1 wr) (fun wr => Below w1.heap.size w1 wr) _ (by omega) (fun k wr hk hb2 => Lst.at (((unhide HS).up (bl_trans (bl_trans (bl1 _ _) hb) hb2)).ves) hk) (fun _ _ _ x y => bl_trans x y) (Below.refl _ _) (fun k wr X ua un uc hk e hI hi => by
        obtain ⟨_, _, _, r⟩ := Lst.at (unhide HS).ves hk
        rw [e] at r
        subst e
        have hS3 := (unhide HS).up (bl_trans (bl_trans (bl1 _ _) hb) hI)
        exact (versionsMayBe_2 S b _ u q g _ _ _ _ _ _ ((unhide HX).up hI) hS3.bus hS3.gone hi r.s2 hx hx2).mono fun _ _ ⟨x, y⟩ => ⟨x, fun _ => bl_trans hI y, fun _ => bl_trans hI y⟩)).mono ?_
      rintro e w2 ⟨rfl, hy, hn⟩
      have hb2 := both_ways hy hn
      clear hy hn
      have x3' := scell_up hb2 x3
      clear x3
      cases hr : allB S.ves.length (vesQ S)
      · rw [hr] at HC
        go_wp2
        go_ret
        exact ⟨ret_bool (by rw [unhide HC]; rfl), bl_trans (bl_trans (bl1 _ _) hb) hb2⟩
      · rw [hr] at HC
        clear hr
        go_wp2_with fail
        refine (nullsMayBe_any _ S.ves _ (((unhide HS).up (bl_trans (bl_trans (bl1 _ _) hb) hb2)).ves) (by omega)).mono ?_
        rintro e w3 ⟨rfl, hb3⟩
        go_wp2
        go_ret
        exact ⟨ret_bool (by rw [unhide HC]; rfl), bl_trans (bl_trans (bl_trans (bl1 _ _) hb) hb2) hb3⟩
  · have HC : Hid (vesC S = false) := by show _ = _; unfold vesC; rw [decide_eq_false hl]; rfl
    go_enter Tryz.func32, Tryz.ntmps32
    go_wp2
    go_ret
    exact ⟨ret_bool (unhide HC).symm, bl1 _ _⟩
end Go.Proofs.YtdgmdapijhbocaaGreat

/- state.Check: whatever the state. -/
namespace Go.Proofs.YtdgmdapijhbocaaGreat
open Go.RowKit Go.Maps
set_option maxRecDepth 100000
set_option linter.unusedVariables false
set_option linter.unusedSimpArgs false
theorem flat_len {α : Type} (f : α → List Int) (m : Nat) : ∀ l : List α, (∀ x ∈ l, (f x).length ≤ m) → (l.flatMap f).length ≤ l.length * m
  | [], _ => by simp
  | x :: l, h => by
    have h1 := h x (by simp)
    have h2 := flat_len f m l fun y hy => h y (by simp [hy])
    simp only [List.flatMap_cons, List.length_append, List.length_cons]
    rw [Nat.succ_mul]
    omega
theorem secN_le {n : Int} (h : n ≤ 600) : secN n ≤ 10 := by unfold secN; split <;> omega
theorem veC_sec {S : St} {x : Ve} (h : veC S x = true) : x.sec.length ≤ 10 := by
  unfold veC at h
  simp only [Bool.and_eq_true] at h
  obtain ⟨_, h⟩ := h
  split at h
  · simp at h; have := h.1.1.2; simp [this]
  · simp only [Bool.and_eq_true] at h
    obtain ⟨hs, h⟩ := h
    have hs2 := secN_le (inB_t hs).2
    split at h
    · simp only [Bool.and_eq_true, beq_iff_eq] at h; omega
    · split at h
      · simp only [Bool.and_eq_true, beq_iff_eq] at h; omega
      · split at h
        · simp only [Bool.and_eq_true, beq_iff_eq] at h; omega
        · cases h
theorem mem_at {α : Type} {l : List α} {x d : α} (h : x ∈ l) : ∃ k, k < l.length ∧ l.getD k d = x := by
  obtain ⟨k, hk, rfl⟩ := List.getElem_of_mem h
  exact ⟨k, hk, by simp [List.getD, hk]⟩
theorem secs_le {S : St} (h1 : vesC S = true) (h2 : upsC S = true) : (secs S).length ≤ 1000 := by
  unfold vesC at h1
  unfold upsC at h2
  simp only [Bool.and_eq_true, decide_eq_true_eq] at h1 h2
  obtain ⟨⟨⟨a1, _⟩, a2⟩, _⟩ := h1
  obtain ⟨⟨b1, _⟩, b2⟩ := h2
  have e1 := flat_len (fun x : Ve => x.sec) 10 S.ves fun x hx => by
    obtain ⟨k, hk, e⟩ := mem_at (d := ve0) hx
    have := allB_iff.1 a2 k hk
    unfold vesQ at this
    rw [e] at this
    exact veC_sec this
  have e2 := flat_len (fun x : Up => x.parts.flatMap (·.sec)) 50 S.ups fun x hx => by
    obtain ⟨k, hk, e⟩ := mem_at (d := up0) hx
    have := allB_iff.1 b2 k hk
    unfold upsQ upC at this
    rw [e] at this
    simp only [Bool.and_eq_true] at this
    have hp := this.2
    unfold pasC at hp
    simp only [Bool.and_eq_true, decide_eq_true_eq] at hp
    have e3 := flat_len (fun y : Pa => y.sec) 10 x.parts fun y hy => by
      obtain ⟨k, hk, e⟩ := mem_at (d := pa0) hy
      have := allB_iff.1 hp.2 k hk
      unfold pasQ paC at this
      rw [e] at this
      simp only [Bool.and_eq_true, beq_iff_eq] at this
      have h6 := secN_le (inB_t this.1.2).2
      omega
    have : x.parts.length ≤ 5 := by have := hp.1.1; omega
    show (x.parts.flatMap fun y => y.sec).length ≤ 50
    omega
  have l1 : S.ves.length ≤ 40 := by omega
  have l2 : S.ups.length ≤ 4 := by omega
  unfold secs
  rw [List.length_append]
  have : (S.ves.flatMap fun x => x.sec).length ≤ 400 := by omega
  have : (S.ups.flatMap fun x => x.parts.flatMap fun y => y.sec).length ≤ 200 := by omega
  omega
/-- A state may be, as the code asks it. -/
def stC (S : St) : Bool := inB S.next 1 1048576 && inB S.clock 0 1073741824 && goneC S.gone && busC S.bus && vesC S && upsC S && queC S && secC S
def stE (S : St) : Int := if stC S then 0 else 9
theorem stE_t {S : St} (h : stC S = true) : stE S = 0 := by unfold stE; rw [h]; rfl
theorem stE_f {S : St} (h : stC S = false) : stE S = 9 := by unfold stE; rw [h]; rfl
set_option maxHeartbeats 2000000 in
theorem check_any (S : St) (b v u q g : Value) (w : World) (hS : Sta w b v u q g S) : Calls Tryz.prog 13 #[stV S b v u q g] w fun e w' => e = .returned (.int .i64 (stE S)) ∧ Below w.heap.size w w' := by
  have HS := hide hS
  clear hS
  have HE : Hid (stC S = (inB S.next 1 1048576 && inB S.clock 0 1073741824 && goneC S.gone && busC S.bus && vesC S && upsC S && queC S && secC S)) := rfl
  have hlt : ∀ o, w.heap.size < (w.alloc o).heap.size := fun o => by simp
  go_enter Tryz.func13, Tryz.ntmps13
  go_wp2_with fail
  refine (within_any _ _ _ _).mono ?_
  rintro e w1 ⟨rfl, rfl⟩
  cases h1 : inB S.next 1 1048576
  · have HF : Hid (stE S = 9) := stE_f (by rw [unhide HE, h1]; rfl)
    go_wp2
    go_ret
    exact ⟨ret_int (unhide HF).symm, bl1 _ _⟩
  obtain ⟨hx, hx2⟩ := inB_t h1
  rw [h1] at HE
  clear h1
  go_wp2_with fail
  refine (within_any _ _ _ _).mono ?_
  rintro e w1 ⟨rfl, rfl⟩
  cases h1 : inB S.clock 0 1073741824
  · have HF : Hid (stE S = 9) := stE_f (by rw [unhide HE, h1]; rfl)
    go_wp2
    go_ret
    exact ⟨ret_int (unhide HF).symm, bl1 _ _⟩
  rw [h1] at HE
  clear h1
  go_wp2_with fail
  refine (goneMayBe_any g S.gone _ ((unhide HS).up (bl1 _ _)).gone).mono ?_
  rintro e w1 ⟨rfl, hb⟩
  have hw1 : Below w.heap.size w w1 := bl_trans (bl1 _ _) hb
  have hX1 := (BoxS.new w S b v u q g 29).up hb
  clear hb
  have x0 := hX1.c0
  have x1 := hX1.c1
  have x2 := hX1.c2
  have x3 := hX1.c3
  have x4 := hX1.c4
  have x5 := hX1.c5
  have x6 := hX1.c6
  have HXB := hide hX1
  clear hX1
  cases h1 : goneC S.gone
  · have HF : Hid (stE S = 9) := stE_f (by rw [unhide HE, h1]; first | rfl | simp)
    clear h1
    go_wp2
    go_ret
    exact ⟨ret_int (unhide HF).symm, hw1⟩
  rw [h1] at HE
  clear h1
  go_wp2_with fail
  refine (bucketsMayBe_any b S.bus _ ((unhide HS).up hw1).bus).mono ?_
  rintro e w2 ⟨rfl, hb⟩
  have hw2 : Below w.heap.size w w2 := bl_trans hw1 hb
  have hX2 := (unhide HXB).up hb
  clear x0 x1 x2 x3 x4 x5 x6 hb HXB
  have x0 := hX2.c0
  have x1 := hX2.c1
  have x2 := hX2.c2
  have x3 := hX2.c3
  have x4 := hX2.c4
  have x5 := hX2.c5
  have x6 := hX2.c6
  have HXB := hide hX2
  clear hX2
  cases h1 : busC S.bus
  · have HF : Hid (stE S = 9) := stE_f (by rw [unhide HE, h1]; first | rfl | simp)
    clear h1
    go_wp2
    go_ret
    exact ⟨ret_int (unhide HF).symm, hw2⟩
  rw [h1] at HE
  clear h1
  go_wp2_with fail
  refine (versionsMayBe_any S b v u q g _ ((unhide HS).up hw2) hx hx2).mono ?_
  rintro e w3 ⟨rfl, hb⟩
  have hw3 : Below w.heap.size w w3 := bl_trans hw2 hb
  have hX3 := (unhide HXB).up hb
  clear x0 x1 x2 x3 x4 x5 x6 hb HXB
  have x0 := hX3.c0
  have x1 := hX3.c1
  have x2 := hX3.c2
  have x3 := hX3.c3
  have x4 := hX3.c4
  have x5 := hX3.c5
  have x6 := hX3.c6
  have HXB := hide hX3
  clear hX3
  cases h1 : vesC S
  · have HF : Hid (stE S = 9) := stE_f (by rw [unhide HE, h1]; first | rfl | simp)
    clear h1
    go_wp2
    go_ret
    exact ⟨ret_int (unhide HF).symm, hw3⟩
  rw [h1] at HE
  have HvesC := hide h1
  clear h1
  go_wp2_with fail
  refine (uploadsMayBe_any S b v u q g _ ((unhide HS).up hw3) hx hx2).mono ?_
  rintro e w4 ⟨rfl, hb⟩
  have hw4 : Below w.heap.size w w4 := bl_trans hw3 hb
  have hX4 := (unhide HXB).up hb
  clear x0 x1 x2 x3 x4 x5 x6 hb HXB
  have x0 := hX4.c0
  have x1 := hX4.c1
  have x2 := hX4.c2
  have x3 := hX4.c3
  have x4 := hX4.c4
  have x5 := hX4.c5
  have x6 := hX4.c6
  have HXB := hide hX4
  clear hX4
  cases h1 : upsC S
  · have HF : Hid (stE S = 9) := stE_f (by rw [unhide HE, h1]; first | rfl | simp)
    clear h1
    go_wp2
    go_ret
    exact ⟨ret_int (unhide HF).symm, hw4⟩
  rw [h1] at HE
  have HupsC := hide h1
  clear h1
  go_wp2_with fail
  refine (queueMayBe_any S b v u q g _ ((unhide HS).up hw4)).mono ?_
  rintro e w5 ⟨rfl, hb⟩
  have hw5 : Below w.heap.size w w5 := bl_trans hw4 hb
  have hX5 := (unhide HXB).up hb
  clear x0 x1 x2 x3 x4 x5 x6 hb HXB
  have x0 := hX5.c0
  have x1 := hX5.c1
  have x2 := hX5.c2
  have x3 := hX5.c3
  have x4 := hX5.c4
  have x5 := hX5.c5
  have x6 := hX5.c6
  have HXB := hide hX5
  clear hX5
  cases h1 : queC S
  · have HF : Hid (stE S = 9) := stE_f (by rw [unhide HE, h1]; first | rfl | simp)
    clear h1
    go_wp2
    go_ret
    exact ⟨ret_int (unhide HF).symm, hw5⟩
  rw [h1] at HE
  clear h1
  go_wp2_with fail
  refine (sectorsMayBe_any S b v u q g _ ((unhide HS).up hw5) (Nat.lt_of_le_of_lt (secs_le (unhide HvesC) (unhide HupsC)) (by decide))).mono ?_
  rintro e w6 ⟨rfl, hb⟩
  have hw6 : Below w.heap.size w w6 := bl_trans hw5 hb
  have hX6 := (unhide HXB).up hb
  clear x0 x1 x2 x3 x4 x5 x6 hb HXB
  cases h1 : secC S
  · have HF : Hid (stE S = 9) := stE_f (by rw [unhide HE, h1]; first | rfl | simp)
    clear h1
    go_wp2
    go_ret
    exact ⟨ret_int (unhide HF).symm, hw6⟩
  · have HF : Hid (stE S = 0) := stE_t (by rw [unhide HE, h1]; first | rfl | simp)
    clear h1
    go_wp2
    go_ret
    exact ⟨ret_int (unhide HF).symm, hw6⟩
end Go.Proofs.YtdgmdapijhbocaaGreat

/- The document's small looks at a state. -/
namespace Go.Proofs.YtdgmdapijhbocaaGreat
open Go.RowKit Go.Maps
set_option maxRecDepth 100000
set_option linter.unusedVariables false
set_option linter.unusedSimpArgs false
end Go.Proofs.YtdgmdapijhbocaaGreat

/- The document's VersionMay. -/
namespace Go.Proofs.YtdgmdapijhbocaaGreat
open Go.RowKit Go.Maps
set_option maxRecDepth 100000
set_option linter.unusedVariables false
set_option linter.unusedSimpArgs false
theorem veC_i {S : St} {x : Ve} (h : inB x.tier 1 3 = false) (hm : x.mar = false) : veC S x = false := by
  have := inB_f h
  exact veC_0 hm (by omega) (by omega) (by omega)
end Go.Proofs.YtdgmdapijhbocaaGreat

/- The document's allSectors. -/
namespace Go.Proofs.YtdgmdapijhbocaaGreat
open Go.RowKit Go.Maps
set_option maxRecDepth 100000
set_option linter.unusedVariables false
set_option linter.unusedSimpArgs false
def i64s (xs : List Int) : List Value := xs.map (.int .i64 ·)
theorem i64s_length (xs : List Int) : (i64s xs).length = xs.length := by simp [i64s]
theorem i64s_snoc (xs : List Int) (x : Int) : i64s xs ++ [.int .i64 x] = i64s (xs ++ [x]) := by simp [i64s]
theorem infoI : (Tryz.prog.info? 3).map (fun i => (i.zero, i.size, i.bytes)) = some (some (.int .i64 0), 1, 8) := by kernel_rfl
abbrev OwI (w : World) (B : Nat) (v : Value) (xs : List Int) : Prop := w.ownsRow B 3 1 v xs.length (i64s xs)
theorem OwI.ints {w : World} {B : Nat} {v : Value} {xs : List Int} (h : OwI w B v xs) (hw : ∀ x ∈ xs, (Lit.int .i64 x).wf = true) : Ints w v xs := by
  have h' := h
  rcases h.2 with ⟨rfl, h0⟩ | ⟨g, cap, cur, rfl, hB, hg, h1, h2, h3, h4⟩
  · have : xs = [] := List.eq_nil_of_length_eq_zero h0
    subst this
    exact ⟨none, 0, rfl, Nat.le_refl _, Nat.zero_le _, fun i hi => absurd hi (Nat.not_lt_zero _)⟩
  · refine ⟨_, cap, rfl, h1, h2, fun i hi => ⟨g, 0, rfl, ?_, hw _ (by simp [List.getD, hi])⟩⟩
    have hx : (i64s xs)[i]? = some (.int .i64 (xs.getD i 0)) := by simp [i64s, List.getD, hi]
    have := h'.cells (g := g) rfl i _ hx
    rw [show (⟨g, 0, none⟩ : Addr).add i = ⟨g, i, none⟩ by unfold Addr.add; split <;> simp_all] at this
    rw [Nat.mul_one]
    simpa using this
theorem OwI.nil (w : World) (B : Nat) : OwI w B (.slice none 0 0) [] := ⟨by simp [i64s], .inl ⟨rfl, rfl⟩⟩
theorem OwI.form {w : World} {B : Nat} {v : Value} {xs : List Int} (h : OwI w B v xs) : ∃ a cap, v = .slice a xs.length cap ∧ xs.length ≤ cap ∧ cap ≤ maxLen := by
  rcases h.2 with ⟨rfl, h0⟩ | ⟨g, cap, cur, rfl, _, _, h1, h2, _⟩
  · exact ⟨_, 0, by rw [h0], by omega, Nat.zero_le _⟩
  · exact ⟨_, cap, rfl, h1, h2⟩
theorem own_blk {w : World} {B : Nat} {v : Value} {xs : List Int} (h : OwI w B v xs) : ∀ j, v.ownBlock = some j → B ≤ j := by
  intro j hj
  rcases h.2 with ⟨rfl, _⟩ | ⟨g, cap, cur, rfl, hB, _⟩
  · simp [Value.ownBlock] at hj
  · simp [Value.ownBlock] at hj
    subst hj
    exact hB
theorem oneI (x : Int) : ∀ u ∈ [Value.int .i64 x], u.oneCell' = true := by simp [Value.oneCell']
theorem own_lo {w : World} {B B' : Nat} {v : Value} {xs : List Int} (h : OwI w B v xs) (hB : B' ≤ B) : OwI w B' v xs := by
  refine ⟨h.1, ?_⟩
  rcases h.2 with h0 | ⟨g, cap, cur, e1, hb, r⟩
  · exact .inl h0
  · exact .inr ⟨g, cap, cur, e1, Nat.le_trans hB hb, r⟩
end Go.Proofs.YtdgmdapijhbocaaGreat
