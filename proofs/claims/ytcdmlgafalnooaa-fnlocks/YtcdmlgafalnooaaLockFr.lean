/-
  (lockTable).free.
-/
import Derived.Test.YtcdmlgafalnooaaLockOps
namespace Go.Proofs.Ytcdmlgafalnooaa
set_option maxRecDepth 100000
set_option maxHeartbeats 4000000
open Go Go.RowKit Go.MapKept
set_option linter.unusedVariables false
set_option linter.unusedSimpArgs false

def notB (txn : Int) (l : T3) : Bool := decide (l.2.1 ≠ txn)
theorem leftKV_drop (pre post : List KV) (e : KV) (seen : Array Nat) : leftKV (pre ++ e :: post) (seen.push e.2.2) = leftKV (pre ++ post) (seen.push e.2.2) := by
  unfold leftKV
  rw [List.filter_append, List.filter_append, List.filter_cons_of_neg (by simp)]
/-- half way: what was seen is clean; of what is not the transaction's nothing is lost -/
structure FInv (txn : Int) (tt0 tt : List TE) (seen : Array Nat) : Prop where
  rest : ((cont tt).filter (notB txn)).Perm ((cont tt0).filter (notB txn))
  clean : ∀ e ∈ tt, seen.contains e.st = true → ∀ x ∈ e.inn, x.1 ≠ txn
theorem FInv.start (txn : Int) (tt : List TE) : FInv txn tt tt #[] := ⟨List.Perm.refl _, fun e _ h => by simp at h⟩
theorem FInv.done {txn : Int} {tt0 tt : List TE} {seen : Array Nat} (h : FInv txn tt0 tt seen) (hl : leftKV (tt.map TE.kv) seen = []) : (cont tt).Perm ((cont tt0).filter (notB txn)) := by
  have : (cont tt).filter (notB txn) = cont tt := by
    rw [List.filter_eq_self]
    intro l hl'
    obtain ⟨e, he, _, x, hx, h2, _⟩ := mem_cont.1 hl'
    have hs : seen.contains e.st = true := by
      unfold leftKV at hl
      rw [List.filter_eq_nil_iff] at hl
      have := hl e.kv (List.mem_map_of_mem he)
      simpa [TE.kv] using this
    have := h.clean e he hs x hx
    unfold notB
    rw [← h2]
    simpa using this
  rw [← this]
  exact h.rest
theorem filter_ls {txn : Int} {e : TE} {inn' : List IE} {ck' : Nat} (h : inn'.filter (fun x => decide (x.1 ≠ txn)) = e.inn.filter (fun x => decide (x.1 ≠ txn))) : ((TE.ls { e with inn := inn', ck := ck' }).filter (notB txn)) = e.ls.filter (notB txn) := by
  unfold TE.ls notB
  rw [List.filter_map, List.filter_map]
  dsimp only [Function.comp_def]
  have := congrArg (List.map fun x : IE => ((e.id, x.1, x.2.1) : T3)) h
  exact this
theorem FInv.turn {w : World} {b0 B ck : Nat} {txn : Int} {tt0 pre post : List TE} {e : TE} {seen : Array Nat} (h : FInv txn tt0 (pre ++ e :: post) seen) (ht : Tab w b0 B (pre ++ e :: post) ck) {inn' : List IE} {ck' : Nat}
    (hf : inn'.filter (fun x => decide (x.1 ≠ txn)) = e.inn.filter (fun x => decide (x.1 ≠ txn))) (hc : ∀ x ∈ inn', x.1 ≠ txn) : FInv txn tt0 (pre ++ { e with inn := inn', ck := ck' } :: post) (seen.push e.st) := by
  have hst : ∀ y ∈ pre ++ post, y.st ≠ e.st := by
    have hn := ht.ok.stamps
    rw [List.map_map, List.map_append, List.map_cons] at hn
    obtain ⟨h1, h2, h3⟩ := List.nodup_append.1 hn
    intro y hy
    rcases List.mem_append.1 hy with hy | hy
    · exact h3 _ (List.mem_map_of_mem hy) _ List.mem_cons_self
    · intro e'
      have h4 := List.mem_map_of_mem (f := (fun x : KV => x.2.2) ∘ TE.kv) hy
      rw [show ((fun x : KV => x.2.2) ∘ TE.kv) y = y.st from rfl, e'] at h4
      exact (List.nodup_cons.1 h2).1 h4
  constructor
  · refine .trans ?_ h.rest
    refine ((cont_mid_perm pre post _).filter _).trans (.trans ?_ ((cont_mid_perm pre post e).filter _).symm)
    rw [List.filter_append, List.filter_append, filter_ls hf]
  · intro y hy hs
    rcases List.mem_append.1 hy with hy' | hy'
    · have hne := hst y (List.mem_append_left _ hy')
      refine h.clean y (List.mem_append_left _ hy') ?_
      simp only [Array.contains_push, Bool.or_eq_true, beq_iff_eq] at hs
      exact hs.resolve_right hne
    · rcases List.mem_cons.1 hy' with rfl | hy'
      · exact hc
      · have hne := hst y (List.mem_append_right _ hy')
        refine h.clean y (List.mem_append_right _ (List.mem_cons_of_mem _ hy')) ?_
        simp only [Array.contains_push, Bool.or_eq_true, beq_iff_eq] at hs
        exact hs.resolve_right hne
theorem FInv.drop {txn : Int} {tt0 pre post : List TE} {e : TE} {seen : Array Nat} (h : FInv txn tt0 (pre ++ e :: post) seen) (he : e.inn = []) : FInv txn tt0 (pre ++ post) seen := by
  constructor
  · refine .trans ?_ h.rest
    refine .trans ?_ ((cont_mid_perm pre post e).filter _).symm
    rw [show e.ls = [] by unfold TE.ls; rw [he]; rfl, List.nil_append]
  · intro y hy hs
    refine h.clean y ?_ hs
    rcases List.mem_append.1 hy with hy | hy
    · exact List.mem_append_left _ hy
    · exact List.mem_append_right _ (List.mem_cons_of_mem _ hy)
theorem IterB.kept {R : Nat → Prop} {w w' : World} {r B since c0 : Nat} {seen : Array Nat} (h : IterB w r B since seen c0) (hk : Kept R w w') (hr : ¬ R r) : IterB w' r B since seen c0 := hk.heap h hr

theorem free8_any (w : World) (b0 B ck : Nat) (tt : List TE) (txn : Int) (h : Tab w b0 B tt ck) :
    Calls Try.prog 28 #[.map (some B), .int .i64 txn] w fun e w' => e = .returned (.tuple #[]) ∧ ∃ tt', (∃ ck', Tab w' b0 B tt' ck') ∧ (cont tt').Perm ((cont tt).filter (notB txn)) ∧ Kept (fun b => b0 ≤ b) w w' ∧ (Full tt → Full tt') := by
  have HT := hid h
  have r2 := run_range_map (P := Try.prog) (T := 45) Try.underlying45 h.out
  have hlow := h.low
  have hBs := h.out.lt
  clear h
  go_enter Try.func28, Try.ntmps28
  go_wp2_with fail
  obtain ⟨r, hr⟩ : ∃ r, w.heap.size = r := ⟨_, rfl⟩
  have hit : IterB (w.alloc (.mapIter (some B) ck #[] ck)) r B ck #[] ck := hr ▸ IterB.new w B ck
  have HT0 := (show Hid (Tab (w.alloc (.mapIter (some B) ck #[] ck)) b0 B tt ck) from HT.out.same ((Kept.refl _ _).alloc _))
  have HS := (show Hid (Kept (fun b => b0 ≤ b) w (w.alloc (.mapIter (some B) ck #[] ck))) from (Kept.refl _ _).alloc _)
  have hbl := (show Hid (∀ e ∈ tt, e.blk < r) from fun e he => by have := (HT.out.inn e he).lt; omega)
  have hrw : w.heap.size ≤ r := by omega
  have hBr : B < r := by omega
  clear r2 HT
  rw [hr]
  generalize (w.alloc (.mapIter (some B) ck #[] ck)) = w3 at hit HT0 HS ⊢
  go_loopw [] (fun wr => ∃ (tt' : List TE) (seen : Array Nat), Hid (IterB wr r B ck seen ck) ∧ Hid (Tab wr b0 B tt' ck) ∧ Hid (FInv txn tt tt' seen) ∧ Hid (Kept (fun b => b0 ≤ b) w wr) ∧ Hid (Full tt → Full tt')) (fun wr => leftN wr r B)
  case atStart => exact ⟨tt, #[], hid hit, HT0, hid (FInv.start _ _), HS, hid id⟩
  case round =>
    obtain ⟨tt', seen, HI, HT, HF, HK, HU⟩ := hrel
    clear hit HT0 HS
    have hlen := leftN_eq HI.out HT.out.out
    rcases run_next_kv (P := Try.prog) (ty := 0) HI.out HT.out.out HT.out.ok.lt (Nat.le_refl _) with ⟨h0, hrun⟩ | ⟨e, he, w1, hw, hrun⟩
    · have HD := hid (HF.out.done h0)
      clear HF h0
      go_wp2
      refine bodyPost_end (results_none Try.results28 _ _ _) rfl ?_
      exact ⟨rfl, tt', ⟨ck, HT.out⟩, HD.out, HK.out, HU.out⟩
    · obtain ⟨g1, g2, g3⟩ := next_facts (e := e) HI.out HT.out.out hw
      have hen := run_entry_kv (P := Try.prog) g1 g2 (mem_left he) HT.out.ok
      obtain ⟨te, hte, rfl⟩ := List.mem_map.1 (mem_left he)
      have hlt := leftKV_push HT.out.ok.stamps he
      have htr : te.blk ≠ r := HI.out.ne (HT.out.inn te hte)
      have hbr : B ≠ r := HI.out.ne HT.out.out
      have HT4 := hid (HT.out.kept g3 hbr (fun y hy e' => HI.out.ne (HT.out.inn y hy) e'))
      have G1 := hid g1
      have G3 := (show Hid (Kept (fun b => b0 ≤ b) w _) from HK.out.next g3 (fun i hi e' => by omega))
      dsimp only [TE.kv] at hrun hen G1 G3 hlt HT4
      clear g1 g2 g3 hw he HI HT HK
      generalize setIt w1 r B ck (seen.push te.st) ck = w4 at *
      obtain ⟨pre, post, rfl⟩ := List.append_of_mem hte
      have hI := HT4.out.inn te hte
      have hO := HT4.out.iok te hte
      have hlo := HT4.out.lows te hte
      have hneB := HT4.out.ne te hte
      -- the holders without the transaction
      obtain ⟨inn', w5, hd5, hw5, hf5, hc5, ho5⟩ : ∃ (inn' : List IE) (w5 : World), (Builtin.delete_ #[62, 2] 0 #[.map (some te.blk), .int .i64 txn]).run Try.prog w4 = .ok (.tuple #[]) w5 ∧ w5 = setM w4 te.blk (inn'.map ikv) te.ck ∧ inn'.filter (fun x => decide (x.1 ≠ txn)) = te.inn.filter (fun x => decide (x.1 ≠ txn)) ∧ (∀ x ∈ inn', x.1 ≠ txn) ∧ KVok (inn'.map ikv) te.ck := by
        rcases ie_cases txn te.inn with hm | ⟨pr, m, s, po, hin, hpr⟩
        · exact ⟨te.inn, _, run_delete_miss Try.underlying62 Try.underlying2 hI (ie_miss hm), rfl, rfl, hm, hO⟩
        · have hon : ∀ y ∈ pr ++ po, y.1 ≠ txn := IE.once (by rw [hin] at hO; exact hO)
          refine ⟨pr ++ po, _, run_delete_hit (v := .int .i64 m) (b := s) Try.underlying62 Try.underlying2 (pre := pr.map ikv) (post := po.map ikv) (by rw [hin, imap_mid] at hI; exact hI) (ie_miss hpr), by rw [List.map_append], ?_, hon, ?_⟩
          · rw [hin, List.filter_append, List.filter_append, List.filter_cons_of_neg (by simp)]
          · rw [hin, imap_mid] at hO
            rw [List.map_append]
            exact hO.drop
      have hk5 : Kept (fun b => b = te.blk) w4 w5 := by rw [hw5]; exact Kept.setM _ _
      have HT5 := hid (HT4.out.inner (w' := w5) (e' := { te with inn := inn', ck := te.ck }) rfl rfl rfl (by rw [hw5]; exact MapB.set hI) ho5 hk5)
      have HF5 := hid (HF.out.turn HT4.out (ck' := te.ck) hf5 hc5)
      have HI5 := hid (G1.out.kept hk5 (fun e' => htr e'.symm))
      have HK5 := (show Hid (Kept (fun b => b0 ≤ b) w w5) from G3.out.next hk5 (fun i hi e' => by rw [e']; exact hlo))
      have hl5 := leftN_eq HI5.out HT5.out.out
      have hmi : MapB w5 te.blk (inn'.map ikv) te.ck := HT5.out.inn _ (List.mem_append_right _ List.mem_cons_self)
      have hle := run_len_map (P := Try.prog) (T := 62) (ty := 3) hmi Try.underlying62
      rw [List.length_map] at hle
      rw [map_mid] at hl5 hlt hlen
      dsimp only at hl5
      clear hw5 hf5 hc5 ho5 hk5 hmi hI hO HF HT4 G1 G3
      cases inn' with
      | nil =>
        obtain ⟨w6, hw6⟩ : ∃ w6, w6 = setM w5 B ((pre ++ post).map TE.kv) ck := ⟨_, rfl⟩
        have hd6 : (Builtin.delete_ #[45, 2] 0 #[.map (some B), .int .i64 te.id]).run Try.prog w5 = .ok (.tuple #[]) w6 := by
          rw [hw6, List.map_append]
          exact run_delete_hit (v := .map (some te.blk)) (b := te.st) Try.underlying45 Try.underlying2 (by have h := HT5.out.out; rw [map_mid] at h; exact h) (te_miss (fun y hy => HT5.out.once y (List.mem_append_left _ hy)))
        have hk6 : Kept (fun b => b = B) w5 w6 := by rw [hw6]; exact Kept.setM _ _
        have HT6 := hid (HT5.out.drop (w' := w6) (by rw [hw6]; exact MapB.set HT5.out.out) hk6)
        have HF6 := hid (HF5.out.drop rfl)
        have HI6 := hid (HI5.out.kept hk6 (fun e' => hbr e'.symm))
        have HK6 := (show Hid (Kept (fun b => b0 ≤ b) w w6) from HK5.out.next hk6 (fun i hi e' => by rw [e']; exact hlow))
        have hl6 := leftN_eq HI6.out HT6.out.out
        have hld := leftKV_drop (pre.map TE.kv) (post.map TE.kv) (te.id, .map (some te.blk), te.st) seen
        dsimp only at hld
        rw [List.map_append, ← hld] at hl6
        clear hw6 hk6 HT5 HF5 HI5 HK5 hl5 hld
        go_wp2_with fail
        refine ⟨⟨pre ++ post, seen.push te.st, HI6, HT6, HF6, HK6, hid (fun h y hy => HU.out h y ((List.Sublist.append_left (List.sublist_cons_self _ _) _).subset hy))⟩, by omega⟩
      | cons a l =>
        have hne : ¬ (((a :: l).length : Nat) : Int) = 0 := by simp; omega
        generalize (a :: l).length = q at hle hne
        go_wp2_with fail
        refine ⟨⟨_, seen.push te.st, HI5, HT5, HF5, HK5, hid (fun h => (HU.out h).mid (by simp))⟩, by omega⟩
end Go.Proofs.Ytcdmlgafalnooaa
