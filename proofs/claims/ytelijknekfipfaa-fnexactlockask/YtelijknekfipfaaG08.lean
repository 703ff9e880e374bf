import Derived.Test.YtelijknekfipfaaG07
import Derived.Test.YtelijknekfipfaaProg
import Derived.Test.YtelijknekfipfaaG04
import Derived.Test.YtelijknekfipfaaG00
import Derived.Test.YtelijknekfipfaaLockAskS
import Derived.Test.YtelijknekfipfaaG06
import Derived.Test.YtelijknekfipfaaG01
import Derived.Shelf.SlIterI.Nil
import Derived.Shelf.SortM.Plain
import Derived.Shelf.SortM.SortNone
import Derived.Ground.GgzProg
import Derived.Ground.SlgmProg
namespace Go.Proofs.Ytelijknekfipfaa
set_option maxRecDepth 100000
set_option maxHeartbeats 8000000
set_option linter.unusedVariables false
set_option linter.unusedSimpArgs false
open Go Go.RowKit Go.MapKept Go.Shelf Go.Maps Go.Sort
def notB (txn : Int) (l : T3) : Bool := decide (l.2.1 ≠ txn)
theorem leftKV_drop (pre post : List KV) (e : KV) (seen : Array Nat) : leftKV (pre ++ e :: post) (seen.push e.2.2) = leftKV (pre ++ post) (seen.push e.2.2) := by
  unfold leftKV
  rw [List.filter_append, List.filter_append, List.filter_cons_of_neg (by simp)]
structure FInv (txn : Int) (tt0 tt : List TE) (seen : Array Nat) : Prop where
  rest : ((cont tt).filter (notB txn)).Perm ((cont tt0).filter (notB txn))
  clean : ∀ e ∈ tt, seen.contains e.st = true → ∀ x ∈ e.inn, x.1 ≠ txn
theorem FInv.start (txn : Int) (tt : List TE) : FInv txn tt tt #[] := ⟨List.Perm.refl _, fun e _ h => by simp at h⟩
theorem FInv.done {txn : Int} {tt0 tt : List TE} {seen : Array Nat} (h : FInv txn tt0 tt seen) (hl : leftKV (tt.map TE.kv) seen = []) : (cont tt).Perm ((cont tt0).filter (notB txn)) := by
  have : (cont tt).filter (notB txn) = cont tt := by
    rw [List.filter_eq_self]
    intro l hl'
    obtain ⟨e, he, _, x, hx, h2, _⟩ := mem_cont.1 hl'
    have hs : seen.contains e.st = true := by
      unfold leftKV at hl
      rw [List.filter_eq_nil_iff] at hl
      have := hl e.kv (List.mem_map_of_mem he)
      simpa [TE.kv] using this
    have := h.clean e he hs x hx
    unfold notB
    rw [← h2]
    simpa using this
  rw [← this]
  exact h.rest
theorem filter_ls {txn : Int} {e : TE} {inn' : List IE} {ck' : Nat} (h : inn'.filter (fun x => decide (x.1 ≠ txn)) = e.inn.filter (fun x => decide (x.1 ≠ txn))) : ((TE.ls { e with inn := inn', ck := ck' }).filter (notB txn)) = e.ls.filter (notB txn) := by
  unfold TE.ls notB
  rw [List.filter_map, List.filter_map]
  dsimp only [Function.comp_def]
  have := congrArg (List.map fun x : IE => ((e.id, x.1, x.2.1) : T3)) h
  exact this
theorem FInv.turn {w : World} {b0 B ck : Nat} {txn : Int} {tt0 pre post : List TE} {e : TE} {seen : Array Nat} (h : FInv txn tt0 (pre ++ e :: post) seen) (ht : Tab w b0 B (pre ++ e :: post) ck) {inn' : List IE} {ck' : Nat}
    (hf : inn'.filter (fun x => decide (x.1 ≠ txn)) = e.inn.filter (fun x => decide (x.1 ≠ txn))) (hc : ∀ x ∈ inn', x.1 ≠ txn) : FInv txn tt0 (pre ++ { e with inn := inn', ck := ck' } :: post) (seen.push e.st) := by
  have hst : ∀ y ∈ pre ++ post, y.st ≠ e.st := by
    have hn := ht.ok.stamps
    rw [List.map_map, List.map_append, List.map_cons] at hn
    obtain ⟨h1, h2, h3⟩ := List.nodup_append.1 hn
    intro y hy
    rcases List.mem_append.1 hy with hy | hy
    · exact h3 _ (List.mem_map_of_mem hy) _ List.mem_cons_self
    · intro e'
      have h4 := List.mem_map_of_mem (f := (fun x : KV => x.2.2) ∘ TE.kv) hy
      rw [show ((fun x : KV => x.2.2) ∘ TE.kv) y = y.st from rfl, e'] at h4
      exact (List.nodup_cons.1 h2).1 h4
  constructor
  · refine .trans ?_ h.rest
    refine ((cont_mid_perm pre post _).filter _).trans (.trans ?_ ((cont_mid_perm pre post e).filter _).symm)
    rw [List.filter_append, List.filter_append, filter_ls hf]
  · intro y hy hs
    rcases List.mem_append.1 hy with hy' | hy'
    · have hne := hst y (List.mem_append_left _ hy')
      refine h.clean y (List.mem_append_left _ hy') ?_
      simp only [Array.contains_push, Bool.or_eq_true, beq_iff_eq] at hs
      exact hs.resolve_right hne
    · rcases List.mem_cons.1 hy' with rfl | hy'
      · exact hc
      · have hne := hst y (List.mem_append_right _ hy')
        refine h.clean y (List.mem_append_right _ (List.mem_cons_of_mem _ hy')) ?_
        simp only [Array.contains_push, Bool.or_eq_true, beq_iff_eq] at hs
        exact hs.resolve_right hne
theorem FInv.drop {txn : Int} {tt0 pre post : List TE} {e : TE} {seen : Array Nat} (h : FInv txn tt0 (pre ++ e :: post) seen) (he : e.inn = []) : FInv txn tt0 (pre ++ post) seen := by
  constructor
  · refine .trans ?_ h.rest
    refine .trans ?_ ((cont_mid_perm pre post e).filter _).symm
    rw [show e.ls = [] by unfold TE.ls; rw [he]; rfl, List.nil_append]
  · intro y hy hs
    refine h.clean y ?_ hs
    rcases List.mem_append.1 hy with hy | hy
    · exact List.mem_append_left _ hy
    · exact List.mem_append_right _ (List.mem_cons_of_mem _ hy)
theorem IterB.kept {R : Nat → Prop} {w w' : World} {r B since c0 : Nat} {seen : Array Nat} (h : IterB w r B since seen c0) (hk : Kept R w w') (hr : ¬ R r) : IterB w' r B since seen c0 := hk.heap h hr
theorem free8_any (w : World) (b0 B ck : Nat) (tt : List TE) (txn : Int) (h : Tab w b0 B tt ck) :
    Calls Try.prog 28 #[.map (some B), .int .i64 txn] w fun e w' => e = .returned (.tuple #[]) ∧ ∃ tt', (∃ ck', Tab w' b0 B tt' ck') ∧ (cont tt').Perm ((cont tt).filter (notB txn)) ∧ Kept (fun b => b0 ≤ b) w w' ∧ (Full tt → Full tt') := by
  have HT := hid h
  have r2 := run_range_map (P := Try.prog) (T := 45) Try.underlying45 h.out
  have hlow := h.low
  have hBs := h.out.lt
  clear h
  go_enter Try.func28, Try.ntmps28
  go_wp2_with fail
  obtain ⟨r, hr⟩ : ∃ r, w.heap.size = r := ⟨_, rfl⟩
  have hit : IterB (w.alloc (.mapIter (some B) ck #[] ck)) r B ck #[] ck := hr ▸ IterB.new w B ck
  have HT0 := (show Hid (Tab (w.alloc (.mapIter (some B) ck #[] ck)) b0 B tt ck) from HT.out.same ((Kept.refl _ _).alloc _))
  have HS := (show Hid (Kept (fun b => b0 ≤ b) w (w.alloc (.mapIter (some B) ck #[] ck))) from (Kept.refl _ _).alloc _)
  have hbl := (show Hid (∀ e ∈ tt, e.blk < r) from fun e he => by have := (HT.out.inn e he).lt; omega)
  have hrw : w.heap.size ≤ r := by omega
  have hBr : B < r := by omega
  clear r2 HT
  rw [hr]
  generalize (w.alloc (.mapIter (some B) ck #[] ck)) = w3 at hit HT0 HS ⊢
  go_loopw [] (fun wr => ∃ (tt' : List TE) (seen : Array Nat), Hid (IterB wr r B ck seen ck) ∧ Hid (Tab wr b0 B tt' ck) ∧ Hid (FInv txn tt tt' seen) ∧ Hid (Kept (fun b => b0 ≤ b) w wr) ∧ Hid (Full tt → Full tt')) (fun wr => leftN wr r B)
  case atStart => exact ⟨tt, #[], hid hit, HT0, hid (FInv.start _ _), HS, hid id⟩
  case round =>
    obtain ⟨tt', seen, HI, HT, HF, HK, HU⟩ := hrel
    clear hit HT0 HS
    have hlen := leftN_eq HI.out HT.out.out
    rcases run_next_kv (P := Try.prog) (ty := 0) HI.out HT.out.out HT.out.ok.lt (Nat.le_refl _) with ⟨h0, hrun⟩ | ⟨e, he, w1, hw, hrun⟩
    · have HD := hid (HF.out.done h0)
      clear HF h0
      go_wp2
      refine bodyPost_end (results_none Try.results28 _ _ _) rfl ?_
      exact ⟨rfl, tt', ⟨ck, HT.out⟩, HD.out, HK.out, HU.out⟩
    · obtain ⟨g1, g2, g3⟩ := next_facts (e := e) HI.out HT.out.out hw
      have hen := run_entry_kv (P := Try.prog) g1 g2 (mem_left he) HT.out.ok
      obtain ⟨te, hte, rfl⟩ := List.mem_map.1 (mem_left he)
      have hlt := leftKV_push HT.out.ok.stamps he
      have htr : te.blk ≠ r := HI.out.ne (HT.out.inn te hte)
      have hbr : B ≠ r := HI.out.ne HT.out.out
      have HT4 := hid (HT.out.kept g3 hbr (fun y hy e' => HI.out.ne (HT.out.inn y hy) e'))
      have G1 := hid g1
      have G3 := (show Hid (Kept (fun b => b0 ≤ b) w _) from HK.out.next g3 (fun i hi e' => by omega))
      dsimp only [TE.kv] at hrun hen G1 G3 hlt HT4
      clear g1 g2 g3 hw he HI HT HK
      generalize setIt w1 r B ck (seen.push te.st) ck = w4 at *
      obtain ⟨pre, post, rfl⟩ := List.append_of_mem hte
      have hI := HT4.out.inn te hte
      have hO := HT4.out.iok te hte
      have hlo := HT4.out.lows te hte
      have hneB := HT4.out.ne te hte
      -- the holders without the transaction
      obtain ⟨inn', w5, hd5, hw5, hf5, hc5, ho5⟩ : ∃ (inn' : List IE) (w5 : World), (Builtin.delete_ #[62, 2] 0 #[.map (some te.blk), .int .i64 txn]).run Try.prog w4 = .ok (.tuple #[]) w5 ∧ w5 = setM w4 te.blk (inn'.map ikv) te.ck ∧ inn'.filter (fun x => decide (x.1 ≠ txn)) = te.inn.filter (fun x => decide (x.1 ≠ txn)) ∧ (∀ x ∈ inn', x.1 ≠ txn) ∧ KVok (inn'.map ikv) te.ck := by
        rcases ie_cases txn te.inn with hm | ⟨pr, m, s, po, hin, hpr⟩
        · exact ⟨te.inn, _, run_delete_miss Try.underlying62 Try.underlying2 hI (ie_miss hm), rfl, rfl, hm, hO⟩
        · have hon : ∀ y ∈ pr ++ po, y.1 ≠ txn := IE.once (by rw [hin] at hO; exact hO)
          refine ⟨pr ++ po, _, run_delete_hit (v := .int .i64 m) (b := s) Try.underlying62 Try.underlying2 (pre := pr.map ikv) (post := po.map ikv) (by rw [hin, imap_mid] at hI; exact hI) (ie_miss hpr), by rw [List.map_append], ?_, hon, ?_⟩
          · rw [hin, List.filter_append, List.filter_append, List.filter_cons_of_neg (by simp)]
          · rw [hin, imap_mid] at hO
            rw [List.map_append]
            exact hO.drop
      have hk5 : Kept (fun b => b = te.blk) w4 w5 := by rw [hw5]; exact Kept.setM _ _
      have HT5 := hid (HT4.out.inner (w' := w5) (e' := { te with inn := inn', ck := te.ck }) rfl rfl rfl (by rw [hw5]; exact MapB.set hI) ho5 hk5)
      have HF5 := hid (HF.out.turn HT4.out (ck' := te.ck) hf5 hc5)
      have HI5 := hid (G1.out.kept hk5 (fun e' => htr e'.symm))
      have HK5 := (show Hid (Kept (fun b => b0 ≤ b) w w5) from G3.out.next hk5 (fun i hi e' => by rw [e']; exact hlo))
      have hl5 := leftN_eq HI5.out HT5.out.out
      have hmi : MapB w5 te.blk (inn'.map ikv) te.ck := HT5.out.inn _ (List.mem_append_right _ List.mem_cons_self)
      have hle := run_len_map (P := Try.prog) (T := 62) (ty := 3) hmi Try.underlying62
      rw [List.length_map] at hle
      rw [map_mid] at hl5 hlt hlen
      dsimp only at hl5
      clear hw5 hf5 hc5 ho5 hk5 hmi hI hO HF HT4 G1 G3
      cases inn' with
      | nil =>
        obtain ⟨w6, hw6⟩ : ∃ w6, w6 = setM w5 B ((pre ++ post).map TE.kv) ck := ⟨_, rfl⟩
        have hd6 : (Builtin.delete_ #[45, 2] 0 #[.map (some B), .int .i64 te.id]).run Try.prog w5 = .ok (.tuple #[]) w6 := by
          rw [hw6, List.map_append]
          exact run_delete_hit (v := .map (some te.blk)) (b := te.st) Try.underlying45 Try.underlying2 (by have h := HT5.out.out; rw [map_mid] at h; exact h) (te_miss (fun y hy => HT5.out.once y (List.mem_append_left _ hy)))
        have hk6 : Kept (fun b => b = B) w5 w6 := by rw [hw6]; exact Kept.setM _ _
        have HT6 := hid (HT5.out.drop (w' := w6) (by rw [hw6]; exact MapB.set HT5.out.out) hk6)
        have HF6 := hid (HF5.out.drop rfl)
        have HI6 := hid (HI5.out.kept hk6 (fun e' => hbr e'.symm))
        have HK6 := (show Hid (Kept (fun b => b0 ≤ b) w w6) from HK5.out.next hk6 (fun i hi e' => by rw [e']; exact hlow))
        have hl6 := leftN_eq HI6.out HT6.out.out
        have hld := leftKV_drop (pre.map TE.kv) (post.map TE.kv) (te.id, .map (some te.blk), te.st) seen
        dsimp only at hld
        rw [List.map_append, ← hld] at hl6
        clear hw6 hk6 HT5 HF5 HI5 HK5 hl5 hld
        go_wp2_with fail
        refine ⟨⟨pre ++ post, seen.push te.st, HI6, HT6, HF6, HK6, hid (fun h y hy => HU.out h y ((List.Sublist.append_left (List.sublist_cons_self _ _) _).subset hy))⟩, by omega⟩
      | cons a l =>
        have hne : ¬ (((a :: l).length : Nat) : Int) = 0 := by simp; omega
        generalize (a :: l).length = q at hle hne
        go_wp2_with fail
        refine ⟨⟨_, seen.push te.st, HI5, HT5, HF5, HK5, hid (fun h => (HU.out h).mid (by simp))⟩, by omega⟩
def Try.keysA_ren : Go.Shelf.Ren := ⟨fun | 7 => 45 | 10 => 55 | n => n, fun | 23 => 45 | 26 => 2 | 3 => 62 | 28 => 66 | 0 => 0 | 27 => 65 | 33 => 71 | 4 => 4 | n => n, fun | n => n⟩
theorem Try.keysA : Go.Proofs.SlLaysZI.n7 Try.prog Try.keysA_ren := {
  mixed := by kernel_rfl
  f7 := ⟨Try.f45.name, by decide, Try.func45.trans (congrArg some (by kernel_rfl))⟩
  f10 := ⟨Try.f55.name, by decide, Try.func55.trans (congrArg some (by kernel_rfl))⟩
  t0 := Try.underlying0
  a0 := Try.isAgg0
  z0 := Try.sizeOf0
  v0 := Try.zeroValue0
  t4 := Try.underlying4
  a4 := Try.isAgg4
  z4 := Try.sizeOf4
  v4 := Try.zeroValue4
  t23 := Try.underlying45
  a23 := Try.isAgg45
  z23 := Try.sizeOf45
  v23 := Try.zeroValue45
  t26 := Try.underlying2
  a26 := Try.isAgg2
  z26 := Try.sizeOf2
  v26 := Try.zeroValue2
  t27 := Try.underlying65
  a27 := Try.isAgg65
  z27 := Try.sizeOf65
  v27 := Try.zeroValue65
  t28 := Try.underlying66
  a28 := Try.isAgg66
  z28 := Try.sizeOf66
  v28 := Try.zeroValue66
  t33 := Try.underlying71
  a33 := Try.isAgg71
  z33 := Try.sizeOf71
  v33 := Try.zeroValue71 }
def Try.keysB_ren : Go.Shelf.Ren := ⟨fun | 7 => 46 | 10 => 56 | n => n, fun | 23 => 62 | 26 => 2 | 3 => 2 | 28 => 66 | 0 => 0 | 27 => 65 | 33 => 71 | 4 => 4 | n => n, fun | n => n⟩
theorem Try.keysB : Go.Proofs.SlLaysZI.n7 Try.prog Try.keysB_ren := {
  mixed := by kernel_rfl
  f7 := ⟨Try.f46.name, by decide, Try.func46.trans (congrArg some (by kernel_rfl))⟩
  f10 := ⟨Try.f56.name, by decide, Try.func56.trans (congrArg some (by kernel_rfl))⟩
  t0 := Try.underlying0
  a0 := Try.isAgg0
  z0 := Try.sizeOf0
  v0 := Try.zeroValue0
  t4 := Try.underlying4
  a4 := Try.isAgg4
  z4 := Try.sizeOf4
  v4 := Try.zeroValue4
  t23 := Try.underlying62
  a23 := Try.isAgg62
  z23 := Try.sizeOf62
  v23 := Try.zeroValue62
  t26 := Try.underlying2
  a26 := Try.isAgg2
  z26 := Try.sizeOf2
  v26 := Try.zeroValue2
  t27 := Try.underlying65
  a27 := Try.isAgg65
  z27 := Try.sizeOf65
  v27 := Try.zeroValue65
  t28 := Try.underlying66
  a28 := Try.isAgg66
  z28 := Try.sizeOf66
  v28 := Try.zeroValue66
  t33 := Try.underlying71
  a33 := Try.isAgg71
  z33 := Try.sizeOf71
  v33 := Try.zeroValue71 }
def Try.sortedA_ren : Go.Shelf.Ren := ⟨fun | 6 => 44 | 8 => 53 | 9 => 54 | 11 => 58 | 13 => 60 | 12 => 59 | 23 => 70 | 24 => 71 | 14 => 61 | 15 => 62 | 16 => 63 | 17 => 64 | 18 => 65 | 19 => 66 | 20 => 67 | 21 => 68 | 22 => 69 | 25 => 72 | 26 => 73 | 27 => 74 | 28 => 75 | 29 => 76 | 30 => 57 | 31 => 77 | n => n, fun | 26 => 2 | 28 => 66 | 24 => 24 | 0 => 0 | 3 => 3 | 37 => 79 | 48 => 89 | 50 => 91 | 4 => 4 | 40 => 82 | 39 => 81 | 45 => 86 | 5 => 5 | 9 => 9 | 51 => 92 | 55 => 96 | 57 => 98 | 58 => 99 | 33 => 71 | n => n, fun | n => n⟩
theorem Try.sortedA : Go.Proofs.SlLaysZI.n6 Try.prog Try.sortedA_ren := {
  mixed := by kernel_rfl
  f6 := ⟨Try.f44.name, by decide, Try.func44.trans (congrArg some (by kernel_rfl))⟩
  f8 := ⟨Try.f53.name, by decide, Try.func53.trans (congrArg some (by kernel_rfl))⟩
  f11 := ⟨Try.f58.name, by decide, Try.func58.trans (congrArg some (by kernel_rfl))⟩
  t0 := Try.underlying0
  a0 := Try.isAgg0
  z0 := Try.sizeOf0
  v0 := Try.zeroValue0
  t24 := Try.underlying24
  a24 := Try.isAgg24
  z24 := Try.sizeOf24
  v24 := Try.zeroValue24
  t26 := Try.underlying2
  a26 := Try.isAgg2
  z26 := Try.sizeOf2
  v26 := Try.zeroValue2
  t28 := Try.underlying66
  a28 := Try.isAgg66
  z28 := Try.sizeOf66
  v28 := Try.zeroValue66
  i26 := by kernel_rfl }
def Try.sortA_ren : Go.Shelf.Ren := ⟨fun | 5 => 54 | 8 => 60 | 7 => 59 | 19 => 70 | 20 => 71 | 10 => 61 | 11 => 62 | 12 => 63 | 13 => 64 | 14 => 65 | 15 => 66 | 16 => 67 | 17 => 68 | 18 => 69 | 30 => 72 | 31 => 73 | 32 => 74 | 33 => 75 | 34 => 76 | 35 => 57 | 40 => 77 | n => n, fun | 23 => 24 | 25 => 2 | 3 => 3 | 32 => 79 | 22 => 24 | 0 => 0 | 44 => 89 | 46 => 91 | 4 => 4 | 36 => 82 | 35 => 81 | 41 => 86 | 5 => 5 | 9 => 9 | 53 => 92 | 57 => 96 | 63 => 98 | 64 => 99 | n => n, fun | n => n⟩
theorem Try.sortA : Go.Proofs.SlLaysM.n5 Try.prog Try.sortA_ren := {
  mixed := by kernel_rfl
  f5 := ⟨Try.f54.name, by decide, Try.func54.trans (congrArg some (by kernel_rfl))⟩
  f7 := ⟨Try.f59.name, by decide, Try.func59.trans (congrArg some (by kernel_rfl))⟩
  f8 := Try.func60.trans (congrArg some (by kernel_rfl))
  f10 := ⟨Try.f61.name, by decide, Try.func61.trans (congrArg some (by kernel_rfl))⟩
  f11 := ⟨Try.f62.name, by decide, Try.func62.trans (congrArg some (by kernel_rfl))⟩
  f12 := ⟨Try.f63.name, by decide, Try.func63.trans (congrArg some (by kernel_rfl))⟩
  f13 := ⟨Try.f64.name, by decide, Try.func64.trans (congrArg some (by kernel_rfl))⟩
  f14 := ⟨Try.f65.name, by decide, Try.func65.trans (congrArg some (by kernel_rfl))⟩
  f15 := ⟨Try.f66.name, by decide, Try.func66.trans (congrArg some (by kernel_rfl))⟩
  f16 := ⟨Try.f67.name, by decide, Try.func67.trans (congrArg some (by kernel_rfl))⟩
  f17 := ⟨Try.f68.name, by decide, Try.func68.trans (congrArg some (by kernel_rfl))⟩
  f18 := ⟨Try.f69.name, by decide, Try.func69.trans (congrArg some (by kernel_rfl))⟩
  f19 := Try.func70.trans (congrArg some (by kernel_rfl))
  f20 := Try.func71.trans (congrArg some (by kernel_rfl))
  f30 := ⟨Try.f72.name, by decide, Try.func72.trans (congrArg some (by kernel_rfl))⟩
  f31 := Try.func73.trans (congrArg some (by kernel_rfl))
  f32 := Try.func74.trans (congrArg some (by kernel_rfl))
  f33 := ⟨Try.f75.name, by decide, Try.func75.trans (congrArg some (by kernel_rfl))⟩
  f34 := ⟨Try.f76.name, by decide, Try.func76.trans (congrArg some (by kernel_rfl))⟩
  f35 := ⟨Try.f57.name, by decide, Try.func57.trans (congrArg some (by kernel_rfl))⟩
  f40 := ⟨Try.f77.name, by decide, Try.func77.trans (congrArg some (by kernel_rfl))⟩
  t0 := Try.underlying0
  a0 := Try.isAgg0
  z0 := Try.sizeOf0
  v0 := Try.zeroValue0
  t3 := Try.underlying3
  a3 := Try.isAgg3
  z3 := Try.sizeOf3
  v3 := Try.zeroValue3
  t4 := Try.underlying4
  a4 := Try.isAgg4
  z4 := Try.sizeOf4
  v4 := Try.zeroValue4
  t5 := Try.underlying5
  a5 := Try.isAgg5
  z5 := Try.sizeOf5
  v5 := Try.zeroValue5
  t9 := Try.underlying9
  a9 := Try.isAgg9
  z9 := Try.sizeOf9
  v9 := Try.zeroValue9
  t22 := Try.underlying24
  a22 := Try.isAgg24
  z22 := Try.sizeOf24
  v22 := Try.zeroValue24
  t23 := Try.underlying24
  a23 := Try.isAgg24
  z23 := Try.sizeOf24
  v23 := Try.zeroValue24
  t25 := Try.underlying2
  a25 := Try.isAgg2
  z25 := Try.sizeOf2
  v25 := Try.zeroValue2
  t32 := Try.underlying79
  a32 := Try.isAgg79
  z32 := Try.sizeOf79
  v32 := Try.zeroValue79
  t35 := Try.underlying81
  a35 := Try.isAgg81
  z35 := Try.sizeOf81
  v35 := Try.zeroValue81
  t36 := Try.underlying82
  a36 := Try.isAgg82
  z36 := Try.sizeOf82
  v36 := Try.zeroValue82
  t41 := Try.underlying86
  a41 := Try.isAgg86
  z41 := Try.sizeOf86
  v41 := Try.zeroValue86
  t44 := Try.underlying89
  a44 := Try.isAgg89
  z44 := Try.sizeOf89
  v44 := Try.zeroValue89
  t46 := Try.underlying91
  a46 := Try.isAgg91
  z46 := Try.sizeOf91
  v46 := Try.zeroValue91
  t53 := Try.underlying92
  a53 := Try.isAgg92
  z53 := Try.sizeOf92
  v53 := Try.zeroValue92
  t57 := Try.underlying96
  a57 := Try.isAgg96
  z57 := Try.sizeOf96
  v57 := Try.zeroValue96
  t63 := Try.underlying98
  a63 := Try.isAgg98
  z63 := Try.sizeOf98
  v63 := Try.zeroValue98
  t64 := Try.underlying99
  a64 := Try.isAgg99
  z64 := Try.sizeOf99
  v64 := Try.zeroValue99 }
def blind (v : Value) : Option (DataW Unit × List MemPlace) := some (.nil, [])
theorem key_of {P : Program} {K : TypeId} (hk : P.underlying K = some (.int .i64)) {x : Int} (hx : -9223372036854775808 ≤ x ∧ x ≤ 9223372036854775807) : keyOf P K (.int .i64 x) = some (.int .i64 x) := by
  have hw : (Lit.int .i64 x).wf = true := by
    have h1 : IntKind.i64.min = -9223372036854775808 := rfl
    have h2 : IntKind.i64.max = 9223372036854775807 := rfl
    simp only [Lit.wf, h1, h2, Bool.and_eq_true, decide_eq_true_eq]
    exact hx
  simp [keyOf, hk, mapKey, hw]
theorem owns_of {P : Program} {K : TypeId} (hk : P.underlying K = some (.int .i64)) {w : World} {B ck : Nat} {kv : List KV} (hb : MapB w B kv ck) (hn : KVok kv ck) (hl : kv.length ≤ maxLen) (hx : ∀ e ∈ kv, -9223372036854775808 ≤ e.1 ∧ e.1 ≤ 9223372036854775807) :
    ∃ D : DataW Unit, w.ownsMap P K blind B kv.length D ∧ (intKeys D).Perm (kv.map (·.1)) ∧ Maps.size D = kv.length := by
  have hrd : ∀ e ∈ kv, Go.WideElems.rd P K blind (entI e) = some (.int .i64 e.1, .nil) := fun e he => by
    simp [Go.WideElems.rd, entI, key_of hk (hx e he), blind]
  have hmap : (ents kv).map (Go.WideElems.rg P K blind) = kv.map fun e => (Lit.int .i64 e.1, (DataW.nil : DataW Unit)) := by
    unfold ents
    rw [List.map_map]
    apply List.map_congr_left
    intro e he
    simp [Function.comp, Go.WideElems.rg, hrd e he]
  refine ⟨_, ⟨(ents kv).toArray, ck, hb, ⟨by simpa [ents] using hl, ⟨?_, ?_, ?_⟩, ?_⟩, by simp [ents], rfl⟩, ?_, ?_⟩
  · intro x hx'
    simp only [ents, List.mem_map] at hx'
    obtain ⟨e, he, rfl⟩ := hx'
    exact hn.lt e he
  · have : (ents kv).toArray.toList.map (·.born) = kv.map (·.2.2) := by simp [ents, Function.comp_def, entI]
    rw [this]
    exact hn.stamps
  · have : (ents kv).toArray.toList.map (·.key) = (kv.map (·.1)).map (Value.int .i64) := by simp [ents, Function.comp_def, entI]
    rw [this]
    exact List.Pairwise.map _ (fun a b h e => h (by simpa using e)) hn.keys
  · intro x hx'
    simp only [ents, List.mem_map] at hx'
    obtain ⟨e, he, rfl⟩ := hx'
    exact ⟨_, hrd e he⟩
  · show (List.map _ (List.foldr _ [] (List.map _ (ents kv).toArray.toList))).Perm _
    rw [show (ents kv).toArray.toList = ents kv from rfl, hmap]
    refine ((Go.WideShapes.sorted_perm _).map _).trans ?_
    rw [List.map_map]
    exact List.Perm.refl _
  · show (List.foldr _ [] (List.map _ (ents kv).toArray.toList)).length = _
    rw [(Go.WideShapes.sorted_perm _).length_eq]
    simp [ents]
theorem same_below {w w' : World} (h : Below w.heap.size w w') : Same w w' := ⟨h.os, h.tape, h.output, h.size, fun k hk _ => h.block k hk⟩
def sortI (l : List Int) : List Int := l.mergeSort (fun x y => decide (x ≤ y))
theorem sorts8 (m : Nat) : AnyZI.SortsIn Try.prog Try.sortedA_ren Fence.wide m :=
  ⟨fun blk off cap ss W hH hblk hsz => callsIn_wide.2 (AnyM.slices_Sort_int Try.sortA blk off cap ss W hH hblk hsz),
   fun p cap W => callsIn_wide.2 (AnyM.slices_Sort_int_none Try.sortA p cap W)⟩
theorem keysA_any (B : Option Nat) (w : World) : Calls Try.prog 45 #[.map B] w fun e w' => e = .returned (.func (.func 55) #[] #[.pointer (some ⟨w.heap.size, 0, none⟩)]) ∧ w' = w.alloc (.cells #[.map B] 45) :=
  (callsIn_wide (n := 5)).1 (AnyZI.keys_in Try.keysA Fence.wide 5 trivial rfl B w)
theorem keysB_any (B : Option Nat) (w : World) : Calls Try.prog 46 #[.map B] w fun e w' => e = .returned (.func (.func 56) #[] #[.pointer (some ⟨w.heap.size, 0, none⟩)]) ∧ w' = w.alloc (.cells #[.map B] 62) :=
  (callsIn_wide (n := 5)).1 (AnyZI.keys_in Try.keysB Fence.wide 5 trivial rfl B w)
theorem sortedA_any (w : World) (B ck : Nat) (kv : List KV) (hb : MapB w B kv ck) (hn : KVok kv ck) (hl : kv.length ≤ 1000000) (hx : ∀ e ∈ kv, -9223372036854775808 ≤ e.1 ∧ e.1 ≤ 9223372036854775807) :
    Calls Try.prog 44 #[.func (.func 55) #[] #[.pointer (some ⟨w.heap.size, 0, none⟩)]] (w.alloc (.cells #[.map (some B)] 45)) fun e w' => ∃ v : Value, e = .returned v ∧ w'.ownsRow (w.heap.size + 1) 2 1 v kv.length ((sortI (kv.map (·.1))).map encZ) ∧ Same (w.alloc (.cells #[.map (some B)] 45)) w' := by
  refine (callsIn_wide (n := 5)).1 ?_
  obtain ⟨D, hown, hperm, hsz⟩ := owns_of (P := Try.prog) (K := 2) Try.underlying2 (hb.same ((Kept.refl _ _).alloc (.cells #[.map (some B)] 45))) hn (by unfold maxLen; omega) hx
  have hseq : SeqGives Fence.wide 2 Try.prog 55 #[.pointer (some ⟨w.heap.size, 0, none⟩)] encZ (fun ss => ss.Perm (intKeys D)) (Maps.size D) (w.alloc (.cells #[.map (some B)] 45)) :=
    AnyZI.keys_gives (ρ := Try.keysA_ren) { Try.keysA with } Fence.wide _ trivial rfl (by omega) w.heap.size B kv.length D _ (by simp) (by simp) hown
  have cS := AnyZI.sorted_in Try.sortedA Fence.wide 5 trivial trivial trivial trivial rfl (by omega) (sorts8 _) (enters_of Try.func54 (by kernel_rfl) rfl) 55 #[.pointer (some ⟨w.heap.size, 0, none⟩)] trivial (enters_of Try.func55 (by kernel_rfl) rfl) _ _ (by rw [hsz]; unfold maxLen; omega) (by rw [hsz]; omega) _ hseq
  refine CallsIn.mono cS ?_
  rintro e w' ⟨v, ss, rfl, hS, hrow, _, hbe⟩
  have hp := hS.trans hperm
  refine ⟨v, rfl, ?_, same_below hbe⟩
  have h1 : ss.length = kv.length := by rw [hp.length_eq, List.length_map]
  have h2 : ss.mergeSort (fun x y => decide (x ≤ y)) = sortI (kv.map (·.1)) := mergeSort_of_perm_i hp
  rw [h1, h2, World.size_alloc] at hrow
  exact hrow
theorem sortedB_any (w : World) (B ck : Nat) (kv : List KV) (hb : MapB w B kv ck) (hn : KVok kv ck) (hl : kv.length ≤ 1000000) (hx : ∀ e ∈ kv, -9223372036854775808 ≤ e.1 ∧ e.1 ≤ 9223372036854775807) :
    Calls Try.prog 44 #[.func (.func 56) #[] #[.pointer (some ⟨w.heap.size, 0, none⟩)]] (w.alloc (.cells #[.map (some B)] 62)) fun e w' => ∃ v : Value, e = .returned v ∧ w'.ownsRow (w.heap.size + 1) 2 1 v kv.length ((sortI (kv.map (·.1))).map encZ) ∧ Same (w.alloc (.cells #[.map (some B)] 62)) w' := by
  refine (callsIn_wide (n := 5)).1 ?_
  obtain ⟨D, hown, hperm, hsz⟩ := owns_of (P := Try.prog) (K := 2) Try.underlying2 (hb.same ((Kept.refl _ _).alloc (.cells #[.map (some B)] 62))) hn (by unfold maxLen; omega) hx
  have hseq : SeqGives Fence.wide 2 Try.prog 56 #[.pointer (some ⟨w.heap.size, 0, none⟩)] encZ (fun ss => ss.Perm (intKeys D)) (Maps.size D) (w.alloc (.cells #[.map (some B)] 62)) :=
    AnyZI.keys_gives (ρ := Try.keysB_ren) { Try.keysB with } Fence.wide _ trivial rfl (by omega) w.heap.size B kv.length D _ (by simp) (by simp) hown
  have cS := AnyZI.sorted_in Try.sortedA Fence.wide 5 trivial trivial trivial trivial rfl (by omega) (sorts8 _) (enters_of Try.func54 (by kernel_rfl) rfl) 56 #[.pointer (some ⟨w.heap.size, 0, none⟩)] trivial (enters_of Try.func56 (by kernel_rfl) rfl) _ _ (by rw [hsz]; unfold maxLen; omega) (by rw [hsz]; omega) _ hseq
  refine CallsIn.mono cS ?_
  rintro e w' ⟨v, ss, rfl, hS, hrow, _, hbe⟩
  have hp := hS.trans hperm
  refine ⟨v, rfl, ?_, same_below hbe⟩
  have h1 : ss.length = kv.length := by rw [hp.length_eq, List.length_map]
  have h2 : ss.mergeSort (fun x y => decide (x ≤ y)) = sortI (kv.map (·.1)) := mergeSort_of_perm_i hp
  rw [h1, h2, World.size_alloc] at hrow
  exact hrow
def grp (S : List T3) (i : Int) : List T3 := S.filter (fun l => decide (l.1 = i))
theorem grp_split {S : List T3} {i : Int} (hr : S.Pairwise ltK) (hi : ∀ l ∈ S, i ≤ l.1) : grp S i ++ S.filter (fun l => decide (l.1 ≠ i)) = S := by
  induction S with
  | nil => rfl
  | cons l t ih =>
    have hr' := List.pairwise_cons.1 hr
    by_cases h : l.1 = i
    · unfold grp
      rw [List.filter_cons_of_pos (by simpa using h), List.filter_cons_of_neg (by simpa using h), List.cons_append]
      congr 1
      exact ih hr'.2 (fun x hx => hi x (List.mem_cons_of_mem _ hx))
    · have h2 : ∀ x ∈ l :: t, x.1 ≠ i := fun x hx => by
        have h3 := hi l List.mem_cons_self
        rcases List.mem_cons.1 hx with rfl | hx
        · exact h
        · have := hr'.1 x hx
          unfold ltK at this
          omega
      unfold grp
      rw [List.filter_eq_nil_iff.2 (fun x hx => by simpa using h2 x hx), List.filter_eq_self.2 (fun x hx => by simpa using h2 x hx), List.nil_append]
theorem grp_all : ∀ (ids : List Int) (S : List T3), S.Pairwise ltK → ids.Pairwise (· < ·) → (∀ l ∈ S, l.1 ∈ ids) → ids.flatMap (grp S) = S
  | [], S, _, _, h => by
    cases S with
    | nil => rfl
    | cons l t => exact absurd (h l List.mem_cons_self) (by simp)
  | i :: r, S, hr, hp, h => by
    have hp' := List.pairwise_cons.1 hp
    have hi : ∀ l ∈ S, i ≤ l.1 := fun l hl => by
      rcases List.mem_cons.1 (h l hl) with e | e
      · omega
      · have := hp'.1 _ e; omega
    have ih := grp_all r (S.filter (fun l => decide (l.1 ≠ i))) (hr.sublist List.filter_sublist) hp'.2 (fun l hl => by
      obtain ⟨h1, h2⟩ := List.mem_filter.1 hl
      exact (List.mem_cons.1 (h l h1)).resolve_left (by simpa using h2))
    have hg : r.flatMap (grp (S.filter (fun l => decide (l.1 ≠ i)))) = r.flatMap (grp S) := by
      show (r.map _).flatten = (r.map _).flatten
      congr 1
      apply List.map_congr_left
      intro j hj
      have := hp'.1 j hj
      unfold grp
      rw [List.filter_filter]
      apply List.filter_congr
      intro l _
      by_cases hl : l.1 = j
      · simp [hl]; omega
      · simp [hl]
    rw [List.flatMap_cons, ← hg, ih]
    exact grp_split hr hi
theorem sortI_lt {l : List Int} (hn : l.Nodup) : (sortI l).Pairwise (· < ·) := by
  have tr : ∀ a b c : Int, decide (a ≤ b) = true → decide (b ≤ c) = true → decide (a ≤ c) = true := fun a b c h1 h2 => by simp only [decide_eq_true_eq] at *; omega
  have tot : ∀ a b : Int, (decide (a ≤ b) || decide (b ≤ a)) = true := fun a b => by simp only [Bool.or_eq_true, decide_eq_true_eq]; omega
  have h1 := List.pairwise_mergeSort (le := fun x y : Int => decide (x ≤ y)) tr tot l
  have h2 : (sortI l).Nodup := (List.mergeSort_perm l _).nodup_iff.2 hn
  unfold sortI at h2 ⊢
  refine (List.Pairwise.and h1 h2).imp ?_
  rintro a b ⟨h3, h4⟩
  simp only [decide_eq_true_eq] at h3
  omega
theorem sortI_mem {l : List Int} {x : Int} : x ∈ sortI l ↔ x ∈ l := (List.mergeSort_perm l _).mem_iff
theorem lt_eq {a b : List Int} (ha : a.Pairwise (· < ·)) (hb : b.Pairwise (· < ·)) (hp : a.Perm b) : a = b :=
  List.Perm.eq_of_pairwise (le := (· < ·)) (fun x y _ _ h1 h2 => by omega) ha hb hp
theorem ids_all {w : World} {b0 B ck : Nat} {tt : List TE} {S : List T3} (h : Tab w b0 B tt ck) (hp : (cont tt).Perm S) (hr : S.Pairwise ltK) : (sortI ((tt.map TE.kv).map (·.1))).flatMap (grp S) = S := by
  refine grp_all _ S hr (sortI_lt h.ok.keys) (fun l hl => sortI_mem.2 ?_)
  obtain ⟨e, he, h1, _⟩ := mem_cont.1 (hp.mem_iff.2 hl)
  rw [List.map_map]
  exact List.mem_map.2 ⟨e, he, h1⟩
theorem txns_all {w : World} {b0 B ck : Nat} {pre post : List TE} {e : TE} {S : List T3} (h : Tab w b0 B (pre ++ e :: post) ck) (hp : (cont (pre ++ e :: post)).Perm S) (hr : S.Pairwise ltK) : sortI ((e.inn.map ikv).map (·.1)) = (grp S e.id).map (·.2.1) := by
  have he : e ∈ pre ++ e :: post := List.mem_append_right _ List.mem_cons_self
  refine lt_eq (sortI_lt (h.iok e he).keys) ?_ ?_
  · rw [List.pairwise_map]
    have h1 : (grp S e.id).Pairwise ltK := hr.sublist List.filter_sublist
    refine h1.imp_of_mem ?_
    intro a b ha hb hab
    have h2 := (List.mem_filter.1 ha).2
    have h3 := (List.mem_filter.1 hb).2
    simp only [decide_eq_true_eq] at h2 h3
    unfold ltK at hab
    omega
  · refine (List.mergeSort_perm _ _).trans ?_
    have h1 : ((cont (pre ++ e :: post)).filter (fun l => decide (l.1 = e.id))).Perm (grp S e.id) := hp.filter _
    have h2 : ((cont (pre ++ e :: post)).filter (fun l => decide (l.1 = e.id))).Perm e.ls := by
      refine ((cont_mid_perm pre post e).filter _).trans ?_
      rw [List.filter_append]
      have h3 : e.ls.filter (fun l => decide (l.1 = e.id)) = e.ls := by
        rw [List.filter_eq_self]
        intro l hl
        obtain ⟨x, _, rfl⟩ := List.mem_map.1 hl
        simp
      have h4 : (cont (pre ++ post)).filter (fun l => decide (l.1 = e.id)) = [] := by
        rw [List.filter_eq_nil_iff]
        intro l hl
        obtain ⟨y, hy, h5, _⟩ := mem_cont.1 hl
        have := h.once y hy
        simp only [decide_eq_true_eq]
        rw [← h5]
        exact this
      rw [h3, h4, List.append_nil]
    have h5 := (h2.symm.trans h1).map (fun l : T3 => l.2.1)
    refine .trans ?_ h5
    unfold TE.ls
    rw [List.map_map, List.map_map]
    exact List.Perm.refl _
theorem look_at {w : World} {b0 B ck : Nat} {pre post : List TE} {e : TE} {S : List T3} (h : Tab w b0 B (pre ++ e :: post) ck) (hp : (cont (pre ++ e :: post)).Perm S) {q : T3} (hq : q ∈ grp S e.id) : q.1 = e.id ∧ ∃ pr s po, e.inn = pr ++ (q.2.1, q.2.2, s) :: po ∧ ∀ y ∈ pr, y.1 ≠ q.2.1 := by
  obtain ⟨h1, h2⟩ := List.mem_filter.1 hq
  simp only [decide_eq_true_eq] at h2
  obtain ⟨y, hy, h3, x, hx, h4, h5⟩ := mem_cont.1 (hp.mem_iff.2 h1)
  have hye : y = e := by
    rcases List.mem_append.1 hy with h6 | h6
    · exact absurd (h3.trans h2) (h.once y (List.mem_append_left _ h6))
    · rcases List.mem_cons.1 h6 with h6 | h6
      · exact h6
      · exact absurd (h3.trans h2) (h.once y (List.mem_append_right _ h6))
  subst hye
  obtain ⟨pr, po, hin⟩ := List.append_of_mem hx
  obtain ⟨t, m, s⟩ := x
  dsimp only at h4 h5
  subst h4 h5
  refine ⟨h2, pr, s, po, hin, fun z hz => ?_⟩
  have hk := h.iok y (List.mem_append_right _ List.mem_cons_self)
  rw [hin] at hk
  exact IE.once hk z (List.mem_append_left _ hz)
def iv8 : Value → Nat | .int _ q => q.toNat | _ => 0
theorem cont_ids {tt : List TE} (hf : Full tt) : tt.length ≤ (cont tt).length ∧ ∀ e ∈ tt, ∃ l ∈ cont tt, l.1 = e.id := by
  constructor
  · induction tt with
    | nil => simp
    | cons e r ih =>
      have h1 := ih (fun y hy => hf y (List.mem_cons_of_mem _ hy))
      have h2 : 0 < e.inn.length := List.length_pos_iff.2 (hf e List.mem_cons_self)
      rw [cont, List.length_append, List.length_cons]
      simp [TE.ls]
      omega
  · intro e he
    obtain ⟨x, hx⟩ := List.exists_mem_of_ne_nil _ (hf e he)
    exact ⟨(e.id, x.1, x.2.1), mem_cont.2 ⟨e, he, rfl, x, hx, rfl, rfl⟩, rfl⟩
theorem inn_len {tt : List TE} {e : TE} (he : e ∈ tt) : e.inn.length ≤ (cont tt).length := by
  obtain ⟨pre, post, rfl⟩ := List.append_of_mem he
  rw [(cont_mid_perm pre post e).length_eq, List.length_append]
  simp [TE.ls]
theorem rd_row {w : World} {base : Nat} {v : Value} {n : Nat} {zs : List Int} (h : w.ownsRow base 2 1 v n (zs.map encZ)) : Rd .i64 w v zs ∧ zs.length = n ∧ (∀ b, v.ownBlock = some b → base ≤ b ∧ b < w.heap.size) := by
  have hl : zs.length = n := by have := h.1; simpa using this
  have ho : Own base 2 .i64 w v zs := by
    unfold Own
    rw [hl]
    exact h
  refine ⟨ho.rd, hl, fun b hb => ?_⟩
  rcases ho.form with ⟨rfl, _⟩ | ⟨g, cap, rfl, h1, h2, _⟩
  · simp [Value.ownBlock] at hb
  · have : g = b := by simpa [Value.ownBlock] using hb
    omega
theorem Rd.at8 {w : World} {a : Option Addr} {c : Nat} {zs : List Int} (h : Rd .i64 w (.slice a zs.length c) zs) (h0 : 0 < zs.length) : ∃ b off, a = some ⟨b, off, none⟩ ∧ zs.length ≤ c ∧ ∀ j (hj : j < zs.length), w.cell? ⟨b, off + j, none⟩ = some (.int .i64 zs[j]) := by
  rcases h.2 with ⟨rfl, _⟩ | ⟨b, off, c', hv, hl, hc⟩
  · simp at h0
  · simp only [Value.slice.injEq] at hv
    obtain ⟨rfl, _, rfl⟩ := hv
    refine ⟨b, off, rfl, hl, fun j hj => ?_⟩
    rw [hc j hj]
    simp [List.getD_eq_getElem?_getD, hj]
theorem part_le {S : List T3} {ids : List Int} (h : ids.flatMap (grp S) = S) {k : Nat} (hk : k < ids.length) (j : Nat) : ((ids.take k).flatMap (grp S) ++ (grp S ids[k]).take j).length ≤ S.length := by
  have h1 : (ids.take (k + 1)).flatMap (grp S) ++ (ids.drop (k + 1)).flatMap (grp S) = S := by rw [← List.flatMap_append, List.take_append_drop]; exact h
  have h2 := congrArg List.length h1
  rw [List.take_succ_eq_append_getElem hk, List.flatMap_append, List.length_append, List.length_append] at h2
  rw [List.length_append]
  have h3 : ((grp S ids[k]).take j).length ≤ ([ids[k]].flatMap (grp S)).length := by
    rw [List.flatMap_singleton]
    exact List.length_take_le' _ _
  omega
theorem list8_any (w : World) (b0 B ck : Nat) (tt : List TE) (S : List T3) (h : Tab w b0 B tt ck) (hp : (cont tt).Perm S) (hr : S.Pairwise ltK) (hf : Full tt) (hl : S.length ≤ 1000000)
    (hb : ∀ l ∈ S, IsI l.1 ∧ IsI l.2.1) :
    Calls Try.prog 29 #[.map (some B)] w fun e w' => ∃ y : FR, e = .returned y.v ∧ y.bs = flat3 S ∧ (∀ b, FootL (FR.rows 3 y) b → w.heap.size ≤ b) ∧ OwnL w' (FR.rows 3 y) ∧ Same w w' := by
  obtain ⟨i0, hi, hz0, hz1, hz2⟩ := info_parts Try.infoLock
  have k1 := count8_any w b0 B ck tt h (by rw [hp.length_eq]; exact hl)
  have hcl := hp.length_eq
  rw [hcl] at k1
  obtain ⟨hid1, hid2⟩ := cont_ids hf
  have hkl : (tt.map TE.kv).length ≤ 1000000 := by rw [List.length_map]; omega
  have hkb : ∀ e ∈ tt.map TE.kv, -9223372036854775808 ≤ e.1 ∧ e.1 ≤ 9223372036854775807 := fun e he => by
    obtain ⟨y, hy, rfl⟩ := List.mem_map.1 he
    obtain ⟨l, hl1, hl2⟩ := hid2 y hy
    have := (hb l (hp.mem_iff.1 hl1)).1
    rw [hl2] at this
    exact this
  have hall := ids_all h hp hr
  obtain ⟨ids, hids⟩ : ∃ ids, sortI ((tt.map TE.kv).map (·.1)) = ids := ⟨_, rfl⟩
  have hmem : ∀ x ∈ ids, ∃ e ∈ tt, e.id = x := fun x hx => by
    rw [← hids, sortI_mem, List.map_map] at hx
    obtain ⟨e, he, h1⟩ := List.mem_map.1 hx
    exact ⟨e, he, h1⟩
  rw [hids] at hall
  have HT := hid h
  have HP := hid hp
  have HR := hid hr
  have HB := hid hb
  have HALL := hid hall
  have HME := hid hmem
  have HKB := hid hkb
  have HID := hid hids
  clear h hp hr hb hall hmem hkb hids hid1 hid2 hcl
  go_enter Try.func29, Try.ntmps29
  go_wp2_with fail
  refine k1.mono ?_
  rintro e w1 ⟨rfl, hk1⟩
  have HK1 := hid hk1
  clear k1 hk1
  obtain ⟨w2, hrun2, hown2, hgr2⟩ := run_make_own (P := Try.prog) w1 0 23 51 i0 _ 3 Try.underlying23 hi hz0 hz1 .i64 .i64 S.length (by rw [hz2]; omega) (by unfold maxLen; omega) (Nat.zero_le _)
  have HO2 := (show Hid (OwnF 3 51 w2 w1.heap.size 0 S.length []) from hown2)
  have HK2 := (show Hid (Same w w2) from HK1.out.grown hgr2 (fun k e => by simp at e))
  have hs2 : w1.heap.size < w2.heap.size := HO2.out.lt
  have hs1 : w.heap.size ≤ w1.heap.size := HK1.out.size
  clear hown2 hgr2
  have HT2 := hid (HT.out.same HK2.out)
  have k3 := keysA_any (some B) w2
  have k4 := sortedA_any w2 B ck (tt.map TE.kv) HT2.out.out HT2.out.ok hkl HKB.out
  go_wp2_with fail
  refine k3.mono ?_
  rintro e w3 ⟨rfl, rfl⟩
  clear k3 hrun2
  go_wp2_with fail
  refine k4.mono ?_
  rintro e w4 ⟨v, rfl, hrow, hk4⟩
  rw [HID.out] at hrow
  obtain ⟨hrd, hlen, hfoot⟩ := rd_row hrow
  obtain ⟨ai, ci, rfl⟩ := hrd.form
  have HS4 := (show Hid (Same w2 w4) from ((Kept.refl _ _).alloc _).trans hk4)
  have HO4 := hid (HO2.out.same HS4.out)
  have HK4 := hid (HK2.out.trans HS4.out)
  have HRD := hid hrd
  have HFT := (show Hid (∀ b, (Value.slice ai ids.length ci).ownBlock = some b → w1.heap.size < b ∧ b < w4.heap.size) from fun b hb => by have := hfoot b hb; omega)
  have hidl : ids.length ≤ 1000000 := by omega
  clear k4 hrow hk4 hrd hfoot hlen HS4 HO2 HT2 HK2 HK1
  go_wp2_with fail
  go_loopw [3, 15] (fun o i wr => ∃ (k g q c : Nat) (ys : List Int), k ≤ ids.length ∧ o = .slice (some ⟨g, 0, none⟩) q c ∧ i = .int .i64 k ∧ w.heap.size ≤ g ∧ Hid (OwnF 3 51 wr g q c ys) ∧ Hid (ys = flat3 ((ids.take k).flatMap (grp S))) ∧ Hid (Same w wr) ∧ Hid (Rd .i64 wr (.slice ai ids.length ci) ids) ∧ Hid (∀ b, (Value.slice ai ids.length ci).ownBlock = some b → b ≠ g ∧ b < wr.heap.size)) (fun _ i _ => ids.length - iv8 i)
  case atStart => exact ⟨0, w1.heap.size, 0, S.length, [], Nat.zero_le _, rfl, rfl, hs1, HO4, hid rfl, HK4, HRD, hid (fun b e => by have := HFT.out _ e; omega)⟩
  case round =>
    obtain ⟨k, g, q, c, ys, hk, rfl, rfl, hg, HO, HY, HK, HD, HNE⟩ := hrel
    clear HO4 HK4 HRD HFT
    by_cases hlt : k < ids.length
    · obtain ⟨bi, oi, ha, hci, hcell⟩ := HD.out.at8 (by omega)
      subst ha
      have hc0 := hcell k hlt
      clear hcell
      obtain ⟨e, he, hei⟩ := HME.out _ (List.getElem_mem hlt)
      rw [← hei] at hc0
      obtain ⟨pre, post, hpp⟩ := List.append_of_mem he
      have HTr := hid (HT.out.same HK.out)
      rw [hpp] at HTr
      have HPp := HP
      rw [hpp] at HPp
      have r1 : ∀ wx, Same w wx → (Instr.lookup 45 (.map (some B)) (.int .i64 e.id) false).run Try.prog wx = .ok (.map (some e.blk)) wx := fun wx hx => by
        have hT := HT.out.same hx
        rw [hpp] at hT
        exact run_lookup_hit (pre := pre.map TE.kv) (post := post.map TE.kv) (b := e.st) Try.underlying45 Try.underlying2 (by have h := hT.out; rw [map_mid] at h; exact h) (te_miss (fun y hy => hT.once y (List.mem_append_left _ hy))) false
      have r1r := r1 _ HK.out
      have htx := txns_all HTr.out HPp.out HR.out
      have heT : e ∈ pre ++ e :: post := List.mem_append_right _ List.mem_cons_self
      have hilen : e.inn.length ≤ 1000000 := by
        have h1 := inn_len he
        have h2 := HP.out.length_eq
        omega
      have k5 := keysB_any (some e.blk) wr
      have k6 := sortedB_any wr e.blk e.ck (e.inn.map ikv) (HTr.out.inn e heT) (HTr.out.iok e heT) (by rw [List.length_map]; exact hilen) (fun y hy => by
        obtain ⟨x, hx, rfl⟩ := List.mem_map.1 hy
        have h1 := HB.out (e.id, x.1, x.2.1) (HP.out.mem_iff.1 (mem_cont.2 ⟨e, he, rfl, x, hx, rfl, rfl⟩))
        exact h1.2)
      rw [htx] at k6
      have HR1 := hid r1
      have HEI := hid hei
      have HPPt := hid hpp
      clear htx r1 he hei hpp
      go_wp2_with fail
      refine k5.mono ?_
      rintro e' w6 ⟨rfl, rfl⟩
      clear k5
      go_wp2_with fail
      refine k6.mono ?_
      rintro e' w7 ⟨v, rfl, hrow, hk7⟩
      obtain ⟨hrd, hlen, hfoot⟩ := rd_row hrow
      obtain ⟨at7, ct7, rfl⟩ := hrd.form
      have HS7 := (show Hid (Same wr w7) from ((Kept.refl _ _).alloc _).trans hk7)
      have hsr := HS7.out.size
      have HO7 := hid (HO.out.same HS7.out)
      have HK7 := hid (HK.out.trans HS7.out)
      have HD7 := hid (HD.out.same HS7.out)
      have HDt := hid hrd
      have HN7 := (show Hid (∀ b, (Value.slice (some ⟨bi, oi, none⟩) ids.length ci).ownBlock = some b → b ≠ g ∧ b < w7.heap.size) from fun b hb => by have := HNE.out b hb; omega)
      have hgr : g < wr.heap.size := HO.out.lt
      have HNt := (show Hid (∀ b, (Value.slice at7 ((grp S e.id).map (·.2.1)).length ct7).ownBlock = some b → b ≠ g ∧ b < w7.heap.size) from fun b hb => by have := hfoot b hb; omega)
      obtain ⟨ts, hts⟩ : ∃ ts, (grp S e.id).map (·.2.1) = ts := ⟨_, rfl⟩
      rw [hts] at HDt HNt ⊢
      have HTS := hid hts
      have htl : ts.length ≤ 1000000 := by
        rw [← hts, List.length_map]
        exact Nat.le_trans (List.length_filter_le _ _) hl
      clear k6 hrow hk7 hrd hlen hfoot HS7 HD HO HK HNE hts r1r
      go_wp2_with fail
      go_loopw [3, 25] (fun o i wj => ∃ (j g q c : Nat) (ys : List Int), j ≤ ts.length ∧ o = .slice (some ⟨g, 0, none⟩) q c ∧ i = .int .i64 j ∧ w.heap.size ≤ g ∧ Hid (OwnF 3 51 wj g q c ys) ∧ Hid (ys = flat3 ((ids.take k).flatMap (grp S) ++ (grp S e.id).take j)) ∧ Hid (Same w wj) ∧ Hid (Rd .i64 wj (.slice (some ⟨bi, oi, none⟩) ids.length ci) ids) ∧ Hid (∀ b, (Value.slice (some ⟨bi, oi, none⟩) ids.length ci).ownBlock = some b → b ≠ g ∧ b < wj.heap.size) ∧ Hid (Rd .i64 wj (.slice at7 ts.length ct7) ts) ∧ Hid (∀ b, (Value.slice at7 ts.length ct7).ownBlock = some b → b ≠ g ∧ b < wj.heap.size)) (fun _ i _ => ts.length - iv8 i)
      case atStart => exact ⟨0, g, q, c, ys, Nat.zero_le _, rfl, rfl, hg, HO7, hid (by rw [HY.out]; simp), HK7, HD7, HN7, HDt, HNt⟩
      case round =>
        clear HO7 HK7 HD7 HN7 HDt HNt HY hg hgr hsr HTr
        obtain ⟨j, g, q, c, ys, hj, rfl, rfl, hg, HO, HY, HK, HD, HN, HDt, HNt⟩ := hrel
        have HTr := hid (HT.out.same HK.out)
        rw [HPPt.out] at HTr
        have HTG := (show Hid (ts.length = (grp S e.id).length) from by unfold Hid; rw [← HTS.out, List.length_map])
        have hqs : q * 3 = ys.length := HO.out.len.symm
        have hys : ys.length ≤ S.length * 3 := by
          rw [HY.out, flat3_length, HEI.out]
          exact Nat.mul_le_mul_right 3 (part_le HALL.out hlt j)
        by_cases hlt2 : j < ts.length
        · obtain ⟨bt, ot, hat, hct, hcell⟩ := HDt.out.at8 (by omega)
          subst hat
          have hc1 := hcell j hlt2
          clear hcell
          have hjg : j < (grp S e.id).length := by rw [← HTG.out]; exact hlt2
          obtain ⟨⟨i3, t, m⟩, hq3⟩ : ∃ z, (grp S e.id)[j] = z := ⟨_, rfl⟩
          obtain ⟨h3, pr, s, po, hin, hpr⟩ := look_at HTr.out HPp.out (q := (i3, t, m)) (by rw [← hq3]; exact List.getElem_mem hjg)
          dsimp only at h3 hin hpr
          subst h3
          have htj : ts[j] = t := by
            have h1 : ts[j]? = some t := by rw [← HTS.out, List.getElem?_map, List.getElem?_eq_getElem hjg, hq3]; rfl
            rw [List.getElem?_eq_getElem hlt2] at h1
            exact Option.some.inj h1
          rw [htj] at hc1
          have r1 := HR1.out wr HK.out
          have r2 : (Instr.lookup 62 (.map (some e.blk)) (.int .i64 t) false).run Try.prog wr = .ok (.int .i64 m) wr := run_lookup_hit (pre := pr.map ikv) (post := po.map ikv) (b := s) Try.underlying62 Try.underlying2 (by have h := HTr.out.inn e heT; rw [hin, imap_mid] at h; exact h) (ie_miss hpr) false
          have HY2 := (show Hid (ys ++ [e.id, t, m] = flat3 ((ids.take k).flatMap (grp S) ++ (grp S e.id).take (j + 1))) from by
            unfold Hid
            rw [List.take_succ_eq_append_getElem hjg, hq3, ← List.append_assoc, flat3_snoc, HY.out])
          have HKO5 := (show Hid ((wr.alloc (.cells #[.int .i64 e.id, .int .i64 t, .int .i64 m] 51)).ownsRow 0 51 3 (.slice (some ⟨g, 0, none⟩) q c) q (vals .i64 ys)) from HO.out.same ((Kept.refl _ _).alloc _))
          have HN5 := (show Hid (Blk (wr.alloc (.cells #[.int .i64 e.id, .int .i64 t, .int .i64 m] 51)) wr.heap.size 51 [.int .i64 e.id, .int .i64 t, .int .i64 m]) from Blk.newL wr [.int .i64 e.id, .int .i64 t, .int .i64 m] 51)
          have hgl := HO.out.lt
          clear hin hpr hq3 HTr htj HY
          go_wp2_with (at_builtin; go_loud (refine wpList_append_lies _ rfl (.tmp 29) (.tmp 38) 23 rfl 0 51 i0 _ 3 24 Try.underlying23 hi hz0 hz1 hz2 rfl (by omega) (.slice (some ⟨g, 0, none⟩) q c) q (vals .i64 ys) rfl (by exact HKO5.out) ⟨wr.heap.size, 0, none⟩ 1 1 [.int .i64 e.id, .int .i64 t, .int .i64 m] rfl rfl (World.news_of_block (cs := #[.int .i64 e.id, .int .i64 t, .int .i64 m]) (t := 51) (fr := (0, 0)) (by exact HN5.out)) (by simp [Value.oneCell']) (by omega) (by unfold maxLen; omega) (by omega) (Nat.zero_le _) (wr.heap.size + 1) (by simp) ?_); intro g5 cap5 w5 hown5 hgrow5 hat5 hlt5; have HO5 := (show Hid (OwnF 3 51 w5 g5 (q + 1) cap5 (ys ++ [e.id, t, m])) from OwnF.of_app3 hown5); have HG5 := (show Hid ((wr.alloc (.cells #[.int .i64 e.id, .int .i64 t, .int .i64 m] 51)).grownBy w5 (Value.slice (some ⟨g, 0, none⟩) q c).ownBlock) from hgrow5); have HAT5 : Hid ((Value.slice (some ⟨g, 0, none⟩) q c).ownBlock = some g5 ∨ g5 = wr.heap.size + 1) := hat5; clear hown5 hgrow5 hat5)
          have hsz5 : wr.heap.size + 1 ≤ w5.heap.size := by have h := HG5.out.size; rw [World.size_alloc] at h; exact h
          have hwr := HK.out.size
          have hg5 : w.heap.size ≤ g5 ∧ (g5 = g ∨ g5 = wr.heap.size + 1) := by
            rcases HAT5.out with h | h
            · have : g = g5 := by simpa [Value.ownBlock] using h
              exact ⟨by omega, .inl this.symm⟩
            · exact ⟨by omega, .inr h⟩
          have HK5 := hid (Same.app HK.out HG5.out hg)
          have HD5 := hid ((HD.out.same ((Kept.refl _ _).alloc _)).kept (Kept.of_grown HG5.out (fun k e => e)) (fun b hb => not_at (fun e => (HN.out b hb).1 e.symm)))
          have HDt5 := hid ((HDt.out.same ((Kept.refl _ _).alloc _)).kept (Kept.of_grown HG5.out (fun k e => e)) (fun b hb => not_at (fun e => (HNt.out b hb).1 e.symm)))
          go_roundw
          case rel => exact ⟨j + 1, g5, q + 1, cap5, ys ++ [e.id, t, m], by omega, rfl, by go_num, hg5.1, HO5, HY2, HK5, HD5, hid (fun b hb => by have := HN.out b hb; omega), HDt5, hid (fun b hb => by have := HNt.out b hb; omega)⟩
          case measure => simp [iv8]; omega
        · obtain rfl : ts.length = j := by omega
          have HY2 := (show Hid (ys = flat3 ((ids.take (k + 1)).flatMap (grp S))) from by
            unfold Hid
            rw [HY.out, List.take_succ_eq_append_getElem hlt, List.flatMap_append, ← HEI.out, HTG.out, List.take_length]
            simp)
          clear HY HTr
          go_wp2
          go_roundw
          case rel => exact ⟨k + 1, g, q, c, ys, by omega, rfl, by go_num, hg, HO, HY2, HK, HD, HN⟩
          case measure => simp [iv8]; omega
    · obtain rfl : ids.length = k := by omega
      have hy := HY.out
      rw [List.take_length, HALL.out] at hy
      go_wp2
      go_ret
      refine ⟨⟨51, some ⟨g, 0, none⟩, q, c, ys⟩, rfl, hy, ?_, HO.out.out, HK.out⟩
      intro b hb
      have := FootL_fr hb
      omega
theorem implLockFree_any (x : FR) (txn : Int) (w : World) (hv : RdF 3 w x) :
    Calls Try.prog 10 #[x.v, .int .i64 txn] w fun e w' => ∃ y : StLockResult, e = .returned y.val ∧ y.dat = freeP (tri x.bs) txn ∧ (∀ b, FootL y.rows b → w.heap.size ≤ b) ∧ OwnL w' y.rows ∧ Same w w' := by
  have HK0 := hid (sameA w [.int .i64 0, .slice none 0 0] 27)
  have b0 := Blk.newL w [.int .i64 0, .slice none 0 0] 27
  have k1 := implLocksFault_any x _ (hv.same HK0.out)
  have k2 := fun wx (h : Same w wx) (hr : (tri x.bs).Pairwise ltK) => openLocks_any x wx (hv.same h) hr
  obtain ⟨xe, xa, n, xc, bs⟩ := x
  dsimp only [FR.v] at k1 k2 ⊢
  clear hv
  obtain ⟨R, hR⟩ : ∃ R, freeP (tri bs) txn = R := ⟨_, rfl⟩
  rw [hR]
  unfold freeP at hR
  by_cases hf : locksF (tri bs) = 0
  · have HG := hid ((goodL_iff _).1 hf)
    rw [if_pos hf] at hR
    rw [hf] at k1
    have HR := hid hR
    clear hR
    go_enter Try.func10, Try.ntmps10
    go_wp2_with fail
    refine k1.mono ?_
    rintro e w1 ⟨rfl, hk1⟩
    have HK1 := hid (HK0.out.trans hk1)
    have HB1 := hid (b0.same hk1)
    have hs1 : w.heap.size + 1 ≤ w1.heap.size := by have h := hk1.size; rw [World.size_alloc] at h; omega
    clear hk1 b0 k1
    go_wp2_with fail
    refine (k2 _ HK1.out HG.out.rise).mono ?_
    rintro e w2 ⟨rfl, tt, ⟨ck, htab⟩, hperm, hk2, hfull⟩
    have HK2 := hid (HK1.out.trans hk2)
    have HB2 := hid (HB1.out.same hk2)
    have k3 := free8_any _ _ _ _ _ txn htab
    have HP := hid hperm
    have HU := hid hfull
    clear k2 hk2 htab hperm hfull HB1 HK1
    go_wp2_with fail
    refine k3.mono ?_
    rintro e w3 ⟨rfl, tt', ⟨ck', htab⟩, hperm, hk3, hfull⟩
    have HK3 := (show Hid (Same w w3) from HK2.out.next hk3 (fun i hi hb => by omega))
    have HB3 := hid (HB2.out.kept hk3 (fun hb => by omega))
    have hs3 := HK3.out.size
    have hl3 := HB3.out.lt
    have k4 := list8_any w3 _ _ _ tt' ((tri bs).filter (notB txn)) htab (hperm.trans (HP.out.filter _)) (HG.out.rise.sublist List.filter_sublist) (hfull HU.out) (by have h1 := List.length_filter_le (notB txn) (tri bs); have h2 := HG.out.len; omega)
      (fun l hl => by have h := HG.out.fine l (List.mem_filter.1 hl).1; unfold IsI; omega)
    clear k3 hk3 htab hperm hfull HB2 HK2 HP HU
    go_wp2_with fail
    refine k4.mono ?_
    rintro e w4 ⟨⟨ye, ya, yn, yc, ybs⟩, rfl, hyb, hyf, hyo, hk4⟩
    have HK4 := hid (HK3.out.trans hk4)
    have HB4 := hid (HB3.out.same hk4)
    have HYB := hid hyb
    have HYF := hid hyf
    have HYO := hid hyo
    clear k4 hk4 hyb hyf hyo HB3 HK3
    dsimp only [FR.v]
    obtain ⟨r0, r1⟩ := HB4.out.all2
    have fr := HB4.out.frozen
    have lr := HB4.out.lt
    go_wp2
    refine bodyPost_ret (v := .agg #[.int .i64 0, .slice ya yn yc]) (by simp [results, Try.results10, go_sem, r0, r1]) rfl ⟨⟨0, ⟨ye, ya, yn, yc, ybs⟩⟩, rfl, ?_, ?_, ?_, ?_⟩
    · rw [← HR.out]
      have h := HYB.out
      show ((0 : Int), ybs) = _
      rw [h]
      rfl
    · intro b hb
      have := HYF.out b hb
      omega
    · refine HYO.out.kept (R := fun b => b = w.heap.size) ?_ (fun b hb e => by have := HYF.out b hb; omega)
      (iterate 2 refine Kept.setCell (R := fun b => b = w.heap.size) ?_ (.inr rfl) _)
      exact Kept.refl _ _
    · (iterate 2 refine Kept.setCell ?_ (.inl (Nat.le_refl _)) _)
      exact HK4.out
  · rw [if_neg hf] at hR
    subst hR
    clear k2
    generalize locksF (tri bs) = F at hf k1
    go_enter Try.func10, Try.ntmps10
    go_wp2_with fail
    refine k1.mono ?_
    rintro e w1 ⟨rfl, hk1⟩
    have HK1 := hid (HK0.out.trans hk1)
    have HB1 := hid (b0.same hk1)
    clear hk1 b0 k1
    obtain ⟨r0, r1⟩ := HB1.out.all2
    have fr := HB1.out.frozen
    have lr := HB1.out.lt
    go_wp2
    refine bodyPost_ret (v := .agg #[.int .i64 2, .slice none 0 0]) (by simp [results, Try.results10, go_sem, r0, r1]) rfl ⟨⟨2, ⟨51, none, 0, 0, []⟩⟩, rfl, rfl, ?_, ?_, ?_⟩
    · intro b hb
      have h := (FootL_one _ _).1 hb
      simp [FR.v, Value.ownBlock] at h
    · exact FR.own_nil _
    · (iterate 2 refine Kept.setCell ?_ (.inl (Nat.le_refl _)) _)
      exact HK1.out
end Go.Proofs.Ytelijknekfipfaa
