import Derived.Test.YtelijknekfipfaaG06
import Derived.Test.YtelijknekfipfaaLockN
import Derived.Test.YtelijknekfipfaaG01
import Derived.Laws.IdiomRangeMap
namespace Go.Proofs.Ytelijknekfipfaa
set_option maxRecDepth 100000
set_option maxHeartbeats 4000000
set_option linter.unusedVariables false
set_option linter.unusedSimpArgs false
open Go Go.RowKit Go.MapKept
theorem map_mid (pre post : List TE) (e : TE) : (pre ++ e :: post).map TE.kv = pre.map TE.kv ++ (e.id, .map (some e.blk), e.st) :: post.map TE.kv := by
 rw [List.map_append, List.map_cons]; rfl
theorem imap_mid (pre post : List IE) (t m : Int) (s : Nat) : (pre ++ (t, m, s) :: post).map ikv = pre.map ikv ++ (t, .int .i64 m, s) :: post.map ikv := by
 rw [List.map_append, List.map_cons]; rfl
theorem te_miss {tt : List TE} {id : Int} (h : ∀ e ∈ tt, e.id ≠ id) : ∀ e ∈ tt.map TE.kv, e.1 ≠ id := fun e he => by
 obtain ⟨y, hy, rfl⟩ := List.mem_map.1 he
 exact h y hy
theorem ie_miss {l : List IE} {t : Int} (h : ∀ e ∈ l, e.1 ≠ t) : ∀ e ∈ l.map ikv, e.1 ≠ t := fun e he => by
 obtain ⟨y, hy, rfl⟩ := List.mem_map.1 he
 exact h y hy
theorem run_lookup_nil {P : Program} {w : World} {T K E : TypeId} {x : Int} {z : Value} (ht : P.underlying T = some (.map K E)) (hk : P.underlying K = some (.int .i64)) (hz : (zeroValue E).run P w = .ok z w) :
  (Instr.lookup T (.map none) (.int .i64 x) false).run P w = .ok z w := by
 have hf : (Instr.findKey K (.int .i64 x) []).run P w = .ok none w := run_find (P := P) (w := w) (kv := []) (x := x) hk (find_miss x [] 0 (by simp))
 unfold Instr.lookup
 simp [Sem.run_bind, run_underlying ht, Result.andThen, Sem.run_pure, run_ck hk, hz, hf]
theorem put_any (w : World) (b0 B ck : Nat) (tt : List TE) (l : T3) (h : Tab w b0 B tt ck) :
  Calls Try.prog 42 #[.map (some B), .agg #[.int .i64 l.1, .int .i64 l.2.1, .int .i64 l.2.2]] w fun e w' => e = .returned (.tuple #[]) ∧ ∃ tt', (∃ ck', Tab w' b0 B tt' ck') ∧ (cont tt').Perm (l :: (cont tt).filter (fun x => !keyB l x)) ∧ Kept (fun b => b0 ≤ b) w w' ∧ (Full tt → Full tt') := by
 obtain ⟨x, y, z⟩ := l
 obtain ⟨w1, hw1⟩ : ∃ w1, w1 = w.alloc (.cells #[.int .i64 x, .int .i64 y, .int .i64 z] 51) := ⟨_, rfl⟩
 have HB0 := (show Hid (Blk w1 w.heap.size 51 [.int .i64 x, .int .i64 y, .int .i64 z]) from by rw [hw1]; exact Blk.newL w _ _)
 have HK0 := (show Hid (Same w w1) from by rw [hw1]; exact sameA w [.int .i64 x, .int .i64 y, .int .i64 z] 51)
 have HT := hid (h.same HK0.out)
 have hBs := h.out.lt
 have hlow := h.low
 have hes : Hid (∀ e ∈ tt, e.blk < w.heap.size) := fun e he => (h.inn e he).lt
 have hsz : w1.heap.size = w.heap.size + 1 := by rw [hw1]; exact World.size_alloc _ _
 clear h
 dsimp only
 obtain ⟨c0, c1, c2⟩ := HB0.out.all3
 rcases te_cases x tt with hm | ⟨pre, e, post, rfl, hid0, hpre⟩
 ·-- a new id
  have HM := hid hm
  clear hm
  have en := (fun w => run_eql_map_nil w 62 _ _ none Try.underlying62 : ∀ w, (binOp .eql 62 (.map none) (.map none)).run Try.prog w = .ok (.bool true) w)
  have r1 : (Instr.lookup 45 (.map (some B)) (.int .i64 x) false).run Try.prog w1 = .ok (.map none) w1 := run_lookup_miss Try.underlying45 Try.underlying2 HT.out.out (te_miss HM.out) (Try.zeroValue62 _) false
  have HKa := (show Hid (Same w1 (w1.alloc (.map #[] 0))) from (Kept.refl _ _).alloc _)
  have HN := (show Hid (MapB (w1.alloc (.map #[] 0)) (w.heap.size + 1) [] 0) from by have h := MapB.new w1; rw [hsz] at h; exact h)
  have mk : (Instr.makeMap 62 none).run Try.prog w1 = .ok (.map (some (w.heap.size + 1))) (w1.alloc (.map #[] 0)) := by rw [← hsz]; exact run_makeMap _ _
  obtain ⟨w3, hw3⟩ : ∃ w3, w3 = setM (w1.alloc (.map #[] 0)) B (tt.map TE.kv ++ [(x, .map (some (w.heap.size + 1)), ck)]) (ck + 1) := ⟨_, rfl⟩
  have r2 : (Instr.mapUpdate 45 (.map (some B)) (.int .i64 x) (.map (some (w.heap.size + 1)))).run Try.prog (w1.alloc (.map #[] 0)) = .ok () w3 := by
   rw [hw3]
   exact run_update_new Try.underlying45 Try.underlying2 (HT.out.out.same HKa.out) (te_miss HM.out)
  obtain ⟨a0, a1, a2⟩ := (HB0.out.same HKa.out).all3
  have HKb := (show Hid (Kept (fun b => b = B) (w1.alloc (.map #[] 0)) w3) from by rw [hw3]; exact Kept.setM _ _)
  have HMB := (show Hid (MapB w3 B (tt.map TE.kv ++ [(x, .map (some (w.heap.size + 1)), ck)]) (ck + 1)) from by rw [hw3]; exact MapB.set (HT.out.out.same HKa.out))
  have HT2 := hid ((HT.out.same HKa.out).snoc HM.out HN.out (by omega) (fun e he h => by have := hes.out e he; omega) (by omega) (by rw [List.map_append]; exact HMB.out) HKb.out)
  have HB2 := hid ((HB0.out.same HKa.out).kept HKb.out (fun e => by omega))
  have HK2 := (show Hid (Kept (fun b => b0 ≤ b) w w3) from ((HK0.out.trans HKa.out).mono (fun _ _ h => h.elim)).next HKb.out (fun i _ e => by rw [e]; exact hlow))
  obtain ⟨d0, d1, d2⟩ := HB2.out.all3
  have r3 : (Instr.lookup 45 (.map (some B)) (.int .i64 x) false).run Try.prog w3 = .ok (.map (some (w.heap.size + 1))) w3 := run_lookup_hit (pre := tt.map TE.kv) (post := []) (b := ck) Try.underlying45 Try.underlying2 HMB.out (te_miss HM.out) false
  have HI := hid (HT2.out.inn ⟨x, w.heap.size + 1, ck, [], 0⟩ (List.mem_append_right _ (List.mem_singleton.2 rfl)))
  obtain ⟨w4, hw4⟩ : ∃ w4, w4 = setM w3 (w.heap.size + 1) ([] ++ [(y, .int .i64 z, 0)]) (0 + 1) := ⟨_, rfl⟩
  have r4 : (Instr.mapUpdate 62 (.map (some (w.heap.size + 1))) (.int .i64 y) (.int .i64 z)).run Try.prog w3 = .ok () w4 := by
   rw [hw4]
   exact run_update_new Try.underlying62 Try.underlying2 HI.out (fun _ h => by simp at h)
  have HKc := (show Hid (Kept (fun b => b = w.heap.size + 1) w3 w4) from by rw [hw4]; exact Kept.setM _ _)
  have HT3 := hid (HT2.out.inner (w' := w4) (pre := tt) (post := []) (e := ⟨x, w.heap.size + 1, ck, [], 0⟩) (e' := ⟨x, w.heap.size + 1, ck, [(y, z, 0)], 0 + 1⟩) rfl rfl rfl (by rw [hw4]; exact MapB.set HI.out) (KVok.snoc (KVok.nil 0) (fun _ h => by simp at h)) HKc.out)
  have HK3 := (show Hid (Kept (fun b => b0 ≤ b) w w4) from HK2.out.next HKc.out (fun i _ e => by omega))
  clear hw3 hw4 HKb HKc HB2 HK2 HT2 HMB HN HKa HT HI HB0 HK0 hes hsz
  subst hw1
  go_enter Try.func42, Try.ntmps42
  go_wp2
  refine bodyPost_end (results_none Try.results42 _ _ _) rfl ?_
  exact ⟨rfl, _, ⟨_, HT3.out⟩, put_new (l := (x, y, z)) HM.out _ _ _ _, HK3.out, fun h => h.snoc (by simp)⟩
 ·subst hid0
  have es := (fun w => run_eql_map_nil w 62 _ _ (some e.blk) Try.underlying62 : ∀ w, (binOp .eql 62 (.map (some e.blk)) (.map none)).run Try.prog w = .ok (.bool false) w)
  have r1 : (Instr.lookup 45 (.map (some B)) (.int .i64 e.id) false).run Try.prog w1 = .ok (.map (some e.blk)) w1 := run_lookup_hit (pre := pre.map TE.kv) (post := post.map TE.kv) (b := e.st) Try.underlying45 Try.underlying2 (by have h := HT.out.out; rw [map_mid] at h; exact h) (te_miss hpre) false
  have HI := hid (HT.out.inn e (List.mem_append_right _ List.mem_cons_self))
  have HO := hid (HT.out.iok e (List.mem_append_right _ List.mem_cons_self))
  have hlo := HT.out.lows e (List.mem_append_right _ List.mem_cons_self)
  rcases ie_cases y e.inn with hm | ⟨pr, m, s, po, hin, hpr⟩
  ·obtain ⟨w4, hw4⟩ : ∃ w4, w4 = setM w1 e.blk (e.inn.map ikv ++ [(y, .int .i64 z, e.ck)]) (e.ck + 1) := ⟨_, rfl⟩
   have r4 : (Instr.mapUpdate 62 (.map (some e.blk)) (.int .i64 y) (.int .i64 z)).run Try.prog w1 = .ok () w4 := by
    rw [hw4]
    exact run_update_new Try.underlying62 Try.underlying2 HI.out (ie_miss hm)
   have HKc := (show Hid (Kept (fun b => b = e.blk) w1 w4) from by rw [hw4]; exact Kept.setM _ _)
   have HT3 := hid (HT.out.inner (w' := w4) (e' := { e with inn := e.inn ++ [(y, z, e.ck)], ck := e.ck + 1 }) rfl rfl rfl (by rw [List.map_append, hw4]; exact MapB.set HI.out) (by rw [List.map_append]; exact HO.out.snoc (ie_miss hm)) HKc.out)
   have HK3 := (show Hid (Kept (fun b => b0 ≤ b) w w4) from (HK0.out.mono (fun _ _ h => h.elim)).next HKc.out (fun i _ e' => by rw [e']; exact hlo))
   have HC := hid (put_old HT.out (l := (e.id, y, z)) rfl (ck' := e.ck + 1) (put_miss (l := (e.id, y, z)) rfl hm e.ck))
   clear hw4 hm HKc HT HI HO HB0 HK0 hes hsz hpre
   subst hw1
   go_enter Try.func42, Try.ntmps42
   go_wp2
   refine bodyPost_end (results_none Try.results42 _ _ _) rfl ?_
   exact ⟨rfl, _, ⟨_, HT3.out⟩, HC.out, HK3.out, fun h => h.mid (by simp)⟩
  ·obtain ⟨w4, hw4⟩ : ∃ w4, w4 = setM w1 e.blk (pr.map ikv ++ (y, .int .i64 z, s) :: po.map ikv) e.ck := ⟨_, rfl⟩
   have r4 : (Instr.mapUpdate 62 (.map (some e.blk)) (.int .i64 y) (.int .i64 z)).run Try.prog w1 = .ok () w4 := by
    rw [hw4]
    exact run_update_hit (v := .int .i64 m) Try.underlying62 Try.underlying2 (by have h := HI.out; rw [hin, imap_mid] at h; exact h) (ie_miss hpr)
   have HKc := (show Hid (Kept (fun b => b = e.blk) w1 w4) from by rw [hw4]; exact Kept.setM _ _)
   have HT3 := hid (HT.out.inner (w' := w4) (e' := { e with inn := pr ++ (y, z, s) :: po, ck := e.ck }) rfl rfl rfl (by rw [imap_mid, hw4]; exact MapB.set HI.out) (by have h := HO.out; rw [hin, imap_mid] at h; rw [imap_mid]; exact h.store) HKc.out)
   have HK3 := (show Hid (Kept (fun b => b0 ≤ b) w w4) from (HK0.out.mono (fun _ _ h => h.elim)).next HKc.out (fun i _ e' => by rw [e']; exact hlo))
   have HC := hid (put_old HT.out (l := (e.id, y, z)) rfl (ck' := e.ck) (put_hit (l := (e.id, y, z)) rfl hin HO.out))
   clear hw4 hin hpr HKc HT HI HO HB0 HK0 hes hsz hpre
   subst hw1
   go_enter Try.func42, Try.ntmps42
   go_wp2
   refine bodyPost_end (results_none Try.results42 _ _ _) rfl ?_
   exact ⟨rfl, _, ⟨_, HT3.out⟩, HC.out, HK3.out, fun h => h.mid (by simp)⟩
theorem mode8_any (w : World) (b0 B ck : Nat) (tt : List TE) (ls : List T3) (txn id : Int) (h : Tab w b0 B tt ck) (hp : (cont tt).Perm ls) (hr : ls.Pairwise ltK) :
  Calls Try.prog 38 #[.map (some B), .int .i64 txn, .int .i64 id] w fun e w' => e = .returned (.int .i64 (modeFrom txn id ls)) ∧ w' = w := by
 rcases te_cases id tt with hm | ⟨pre, e, post, rfl, hid0, hpre⟩
 ·have r1 : (Instr.lookup 45 (.map (some B)) (.int .i64 id) false).run Try.prog w = .ok (.map none) w := run_lookup_miss Try.underlying45 Try.underlying2 h.out (te_miss hm) (Try.zeroValue62 _) false
  rw [mode_miss_id hp hm]
  have r2 : (Instr.lookup 62 (.map none) (.int .i64 txn) false).run Try.prog w = .ok (.int .i64 0) w := run_lookup_nil Try.underlying62 Try.underlying2 (Try.zeroValue2 _)
  clear h hp hr hm
  go_enter Try.func38, Try.ntmps38
  go_wp2
  go_ret
  exact ⟨rfl, rfl⟩
 ·subst hid0
  have r1 : (Instr.lookup 45 (.map (some B)) (.int .i64 e.id) false).run Try.prog w = .ok (.map (some e.blk)) w := run_lookup_hit (pre := pre.map TE.kv) (post := post.map TE.kv) (b := e.st) Try.underlying45 Try.underlying2 (by have h := h.out; rw [map_mid] at h; exact h) (te_miss hpre) false
  have he : e ∈ pre ++ e :: post := List.mem_append_right _ List.mem_cons_self
  have hi := h.inn e he
  rcases ie_cases txn e.inn with hm | ⟨pr, m, s, po, hin, hpr⟩
  ·have r2 : (Instr.lookup 62 (.map (some e.blk)) (.int .i64 txn) false).run Try.prog w = .ok (.int .i64 0) w := run_lookup_miss Try.underlying62 Try.underlying2 hi (ie_miss hm) (Try.zeroValue2 _) false
   rw [mode_miss_txn h hp hm]
   clear h hp hr hm hi he
   go_enter Try.func38, Try.ntmps38
   go_wp2
   go_ret
   exact ⟨rfl, rfl⟩
  ·have r2 : (Instr.lookup 62 (.map (some e.blk)) (.int .i64 txn) false).run Try.prog w = .ok (.int .i64 m) w := run_lookup_hit (pre := pr.map ikv) (post := po.map ikv) (b := s) Try.underlying62 Try.underlying2 (by rw [hin, imap_mid] at hi; exact hi) (ie_miss hpr) false
   have hmo := mode_hit h hp hr he (x := (txn, m, s)) (by rw [hin]; exact List.mem_append_right _ List.mem_cons_self)
   dsimp only at hmo
   rw [hmo]
   clear h hp hr hpr hi he hin hmo
   go_enter Try.func38, Try.ntmps38
   go_wp2
   go_ret
   exact ⟨rfl, rfl⟩
def mostKV (txn : Int) : List KV → Int
 | [] => 0
 | e :: r => if e.1 = txn then mostKV txn r else max (intOf e.2.1) (mostKV txn r)
theorem mostKV_perm (txn : Int) {l l' : List KV} (h : l.Perm l') : mostKV txn l = mostKV txn l' := by
 induction h with
 | nil => rfl
 | cons x _ ih => simp only [mostKV, ih]
 | swap x y l =>
  simp only [mostKV]
  split <;> split <;> first | rfl | omega
 | trans _ _ h1 h2 => exact h1.trans h2
theorem mostKV_spec (txn : Int) : ∀ l : List IE, (∀ x ∈ l, 0 ≤ x.2.1) → 0 ≤ mostKV txn (l.map ikv) ∧ (∀ x ∈ l, x.1 ≠ txn → x.2.1 ≤ mostKV txn (l.map ikv)) ∧ (mostKV txn (l.map ikv) = 0 ∨ ∃ x ∈ l, x.1 ≠ txn ∧ x.2.1 = mostKV txn (l.map ikv))
 | [], _ => ⟨by simp [mostKV], fun _ h => by simp at h, .inl rfl⟩
 | e :: r, h => by
  obtain ⟨h1, h2, h3⟩ := mostKV_spec txn r (fun x hx => h x (List.mem_cons_of_mem _ hx))
  have h0 := h e List.mem_cons_self
  have hd : mostKV txn ((e :: r).map ikv) = if e.1 = txn then mostKV txn (r.map ikv) else max e.2.1 (mostKV txn (r.map ikv)) := rfl
  rw [hd]
  by_cases he : e.1 = txn
  ·rw [if_pos he]
   refine ⟨h1, fun x hx hn => ?_, ?_⟩
   ·rcases List.mem_cons.1 hx with rfl | hx
    ·exact absurd he hn
    ·exact h2 x hx hn
   ·rcases h3 with h3 | ⟨x, hx, h4, h5⟩
    ·exact .inl h3
    ·exact .inr ⟨x, List.mem_cons_of_mem _ hx, h4, h5⟩
  ·rw [if_neg he]
   refine ⟨by omega, fun x hx hn => ?_, ?_⟩
   ·rcases List.mem_cons.1 hx with rfl | hx
    ·omega
    ·have := h2 x hx hn; omega
   ·by_cases hg : mostKV txn (r.map ikv) ≤ e.2.1
    ·exact .inr ⟨e, List.mem_cons_self, he, by omega⟩
    ·rcases h3 with h3 | ⟨x, hx, h4, h5⟩
     ·omega
     ·exact .inr ⟨x, List.mem_cons_of_mem _ hx, h4, by omega⟩
theorem others_eq {w : World} {b0 B ck : Nat} {pre post : List TE} {e : TE} {ls : List T3} (h : Tab w b0 B (pre ++ e :: post) ck) (hp : (cont (pre ++ e :: post)).Perm ls) (hg : ∀ l ∈ ls, 1 ≤ l.2.2) (txn : Int) :
  mostKV txn (e.inn.map ikv) = othersFrom txn e.id 0 ls := by
 have hin : ∀ x ∈ e.inn, ((e.id, x.1, x.2.1) : T3) ∈ ls := fun x hx => hp.mem_iff.1 (mem_cont.2 ⟨e, List.mem_append_right _ List.mem_cons_self, rfl, x, hx, rfl, rfl⟩)
 obtain ⟨h1, h2, h3⟩ := mostKV_spec txn e.inn (fun x hx => by have := hg _ (hin x hx); dsimp only at this; omega)
 obtain ⟨g1, g2, g3⟩ := othersFrom_spec txn e.id ls 0
 have a1 : mostKV txn (e.inn.map ikv) ≤ othersFrom txn e.id 0 ls := by
  rcases h3 with h3 | ⟨x, hx, h4, h5⟩
  ·omega
  ·have := g2 _ (hin x hx) rfl h4
   dsimp only at this
   omega
 have a2 : othersFrom txn e.id 0 ls ≤ mostKV txn (e.inn.map ikv) := by
  rcases g3 with g3 | ⟨l, hl, h4, h5, h6⟩
  ·omega
  ·obtain ⟨y, hy, h7, x, hx, h8, h9⟩ := mem_cont.1 (hp.mem_iff.2 hl)
   have : y = e := by
    rcases List.mem_append.1 hy with q | q
    ·exact absurd (h7.trans h4) (h.once y (List.mem_append_left _ q))
    ·rcases List.mem_cons.1 q with q | q
     ·exact q
     ·exact absurd (h7.trans h4) (h.once y (List.mem_append_right _ q))
   subst this
   have := h2 x hx (by rw [h8]; exact h5)
   omega
 omega
theorem others_miss {tt : List TE} {ls : List T3} (hp : (cont tt).Perm ls) {txn id : Int} (hm : ∀ e ∈ tt, e.id ≠ id) : othersFrom txn id 0 ls = 0 := by
 obtain ⟨g1, g2, g3⟩ := othersFrom_spec txn id ls 0
 rcases g3 with g3 | ⟨l, hl, h4, _⟩
 ·exact g3
 ·obtain ⟨y, hy, h7, _⟩ := mem_cont.1 (hp.mem_iff.2 hl)
  exact absurd (h7.trans h4) (hm y hy)
theorem others8_any (w : World) (b0 B ck : Nat) (tt : List TE) (ls : List T3) (txn id : Int) (h : Tab w b0 B tt ck) (hp : (cont tt).Perm ls) (hg : ∀ l ∈ ls, 1 ≤ l.2.2) :
  Calls Try.prog 31 #[.map (some B), .int .i64 txn, .int .i64 id] w fun e w' => e = .returned (.int .i64 (othersFrom txn id 0 ls)) ∧ Same w w' := by
 rcases te_cases id tt with hm | ⟨pre, e, post, rfl, hid0, hpre⟩
 ·have r1 : (Instr.lookup 45 (.map (some B)) (.int .i64 id) false).run Try.prog w = .ok (.map none) w := run_lookup_miss Try.underlying45 Try.underlying2 h.out (te_miss hm) (Try.zeroValue62 _) false
  rw [others_miss hp hm]
  have r2 := run_range_nilMap (P := Try.prog) w 62 _ _ Try.underlying62
  have r3 : (Instr.next (.pointer (some ⟨w.heap.size, 0, none⟩)) false 0).run Try.prog (w.alloc (.mapIter none 0 #[] 0)) = .ok (.tuple #[.bool false]) (w.alloc (.mapIter none 0 #[] 0)) := run_next_nilMap _ 0 0 0 #[]
  clear h hp hg hm
  go_enter Try.func31, Try.ntmps31
  go_wp2
  refine wp_loop_rounds 1 ?_
  rw [rounds_succ]
  go_wp2
  go_ret
  exact ⟨rfl, (Kept.refl _ _).alloc _⟩
 ·subst hid0
  have r1 : (Instr.lookup 45 (.map (some B)) (.int .i64 e.id) false).run Try.prog w = .ok (.map (some e.blk)) w := run_lookup_hit (pre := pre.map TE.kv) (post := post.map TE.kv) (b := e.st) Try.underlying45 Try.underlying2 (by have h := h.out; rw [map_mid] at h; exact h) (te_miss hpre) false
  have he : e ∈ pre ++ e :: post := List.mem_append_right _ List.mem_cons_self
  have hb' := h.inn e he
  have hk := h.iok e he
  have hnn : Hid (∀ x ∈ e.inn, 0 ≤ x.2.1) := fun x hx => by
   have := hg (e.id, x.1, x.2.1) (hp.mem_iff.1 (mem_cont.2 ⟨e, he, rfl, x, hx, rfl, rfl⟩))
   dsimp only at this
   omega
  rw [← others_eq h hp hg txn]
  have r2 := run_range_map (P := Try.prog) (T := 62) Try.underlying62 hb'
  have H2 := hid hb'
  have HN := hid hk
  clear h hp hg hpre he hb' hk
  generalize e.inn = inn at H2 HN hnn ⊢
  generalize e.ck = ck at *
  generalize e.blk = B' at *
  generalize e.id = id at *
  clear pre post e
  go_enter Try.func31, Try.ntmps31
  go_wp2_with fail
  obtain ⟨r, hr⟩ : ∃ r, w.heap.size = r := ⟨_, rfl⟩
  have hit : IterB (w.alloc (.mapIter (some B') ck #[] ck)) r B' ck #[] ck := hr ▸ IterB.new w B' ck
  have hmb : MapB (w.alloc (.mapIter (some B') ck #[] ck)) B' (inn.map ikv) ck := H2.out.same ((Kept.refl _ _).alloc _)
  have HS := (show Hid (Same w (w.alloc (.mapIter (some B') ck #[] ck))) from (Kept.refl _ _).alloc _)
  have hrw : w.heap.size ≤ r := by omega
  clear r1 r2 H2
  rw [hr]
  generalize (w.alloc (.mapIter (some B') ck #[] ck)) = w3 at hit hmb HS ⊢
  go_loopw [7] (fun m wr => ∃ (mo : Int) (seen : Array Nat), m = .int .i64 mo ∧ Hid (IterB wr r B' ck seen ck) ∧ Hid (MapB wr B' (inn.map ikv) ck) ∧ 0 ≤ mo ∧ Hid (max mo (mostKV txn (leftKV (inn.map ikv) seen)) = mostKV txn (inn.map ikv)) ∧ Hid (Same w wr)) (fun _ wr => leftN wr r B')
  case atStart => exact ⟨0, #[], rfl, hid hit, hid hmb, Int.le_refl _, hid (by rw [leftKV_nil]; have := (mostKV_spec txn inn hnn.out).1; omega), HS⟩
  case round =>
   obtain ⟨mo, seen, rfl, HI, HM, h00, HX, HKr⟩ := hrel
   clear hit hmb HS
   have hlen := leftN_eq HI.out HM.out
   rcases run_next_kv (P := Try.prog) (ty := 0) HI.out HM.out HN.out.lt (Nat.le_refl _) with ⟨h0, hrun⟩ | ⟨e, he, w1, hw, hrun⟩
   ·have hx := HX.out
    rw [h0] at hx
    simp only [mostKV] at hx
    have HE := (show Hid (mo = mostKV txn (inn.map ikv)) from by unfold Hid; rw [← hx]; omega)
    clear hx HX
    go_wp2
    go_ret
    exact ⟨by rw [← HE.out]; rfl, HKr.out⟩
   ·obtain ⟨g1, g2, g3⟩ := next_facts (e := e) HI.out HM.out hw
    have hen := run_entry_kv (P := Try.prog) g1 g2 (mem_left he) HN.out
    obtain ⟨⟨t, mm, s⟩, hxi, hmm⟩ := List.mem_map.1 (mem_left he)
    have hlt := leftKV_push HN.out.stamps he
    have hlen' := leftN_eq g1 g2
    have hp := mostKV_perm txn (leftKV_perm HN.out.stamps he)
    rw [mostKV] at hp
    subst hmm
    dsimp only [ikv, intOf] at hp hrun hen hlt hlen' g1 g2 g3
    have hmm0 := hnn.out _ hxi
    dsimp only at hmm0
    have G1 := hid g1
    have G2 := hid g2
    have G3 := (show Hid (Same w _) from HKr.out.next g3 (fun i hi e' => by omega))
    clear g1 g2 g3 hw he hxi
    generalize setIt w1 r B' ck (seen.push s) ck = w4 at *
    by_cases hq : t = txn
    ·subst hq
     replace hp : mostKV t (leftKV (inn.map ikv) seen) = mostKV t (leftKV (inn.map ikv) (seen.push s)) := hp.trans (if_pos rfl)
     go_wp2_with fail
     refine ⟨⟨_, seen.push s, rfl, G1, G2, h00, hid ?_, G3⟩, by omega⟩
     have := HX.out
     omega
    ·replace hp : mostKV txn (leftKV (inn.map ikv) seen) = max mm (mostKV txn (leftKV (inn.map ikv) (seen.push s))) := hp.trans (if_neg hq)
     go_wp2_with fail
     refine ⟨⟨_, seen.push s, rfl, G1, G2, (by first | omega | (split <;> omega)), hid ?_, G3⟩, by omega⟩
     have := HX.out
     split <;> omega
def innN (tt : List TE) (v : Value) : Nat :=
 match v with
 | .map (some b) => match tt.find? (fun e => e.blk == b) with | some e => e.inn.length | none => 0
 | _ => 0
def sumKV (g : Value → Nat) : List KV → Nat
 | [] => 0
 | e :: r => g e.2.1 + sumKV g r
theorem sumKV_perm (g : Value → Nat) {l l' : List KV} (h : l.Perm l') : sumKV g l = sumKV g l' := by
 induction h with
 | nil => rfl
 | cons x _ ih => simp only [sumKV, ih]
 | swap x y l => simp only [sumKV]; omega
 | trans _ _ h1 h2 => exact h1.trans h2
theorem innN_at {tt : List TE} (hn : (tt.map TE.blk).Nodup) {e : TE} (he : e ∈ tt) : innN tt (.map (some e.blk)) = e.inn.length := by
 have : tt.find? (fun y => y.blk == e.blk) = some e := by
  induction tt with
  | nil => simp at he
  | cons y r ih =>
   rw [List.map_cons, List.nodup_cons] at hn
   by_cases hy : y.blk = e.blk
   ·have : y = e := by
     rcases List.mem_cons.1 he with h | h
     ·exact h.symm
     ·exact absurd (List.mem_map_of_mem (f := TE.blk) h) (by rw [← hy]; exact hn.1)
    rw [List.find?_cons_of_pos (by simp [hy]), this]
   ·have he' : e ∈ r := by
     rcases List.mem_cons.1 he with h | h
     ·exact absurd (congrArg TE.blk h.symm) hy
     ·exact h
    rw [List.find?_cons_of_neg (by simpa using hy)]
    exact ih hn.2 he'
 simp only [innN, this]
theorem sumKV_cont (T : List TE) (hn : (T.map TE.blk).Nodup) : ∀ tt : List TE, (∀ e ∈ tt, e ∈ T) → sumKV (innN T) (tt.map TE.kv) = (cont tt).length
 | [], _ => rfl
 | e :: r, h => by
  rw [List.map_cons, sumKV, cont, List.length_append, sumKV_cont T hn r (fun x hx => h x (List.mem_cons_of_mem _ hx))]
  show innN T (.map (some e.blk)) + _ = _
  rw [innN_at hn (h e List.mem_cons_self)]
  simp [TE.ls]
theorem count8_any (w : World) (b0 B ck : Nat) (tt : List TE) (h : Tab w b0 B tt ck) (hl : (cont tt).length ≤ 1000000) :
  Calls Try.prog 43 #[.map (some B)] w fun e w' => e = .returned (.int .i64 ((cont tt).length : Nat)) ∧ Same w w' := by
 have HT := hid h
 have hN := hid (sumKV_cont tt h.blks tt (fun e h => h))
 have r2 := run_range_map (P := Try.prog) (T := 45) Try.underlying45 h.out
 clear h
 generalize (cont tt).length = N at hN hl ⊢
 go_enter Try.func43, Try.ntmps43
 go_wp2_with fail
 obtain ⟨r, hr⟩ : ∃ r, w.heap.size = r := ⟨_, rfl⟩
 have hit : IterB (w.alloc (.mapIter (some B) ck #[] ck)) r B ck #[] ck := hr ▸ IterB.new w B ck
 have HS := (show Hid (Same w (w.alloc (.mapIter (some B) ck #[] ck))) from (Kept.refl _ _).alloc _)
 have hrw : w.heap.size ≤ r := by omega
 clear r2
 rw [hr]
 generalize (w.alloc (.mapIter (some B) ck #[] ck)) = w3 at hit HS ⊢
 go_loopw [3] (fun m wr => ∃ (mo : Nat) (seen : Array Nat), m = .int .i64 (mo : Int) ∧ Hid (IterB wr r B ck seen ck) ∧ mo + sumKV (innN tt) (leftKV (tt.map TE.kv) seen) = N ∧ Hid (Same w wr)) (fun _ wr => leftN wr r B)
 case atStart => exact ⟨0, #[], rfl, hid hit, (by rw [leftKV_nil, hN.out]; omega), HS⟩
 case round =>
  obtain ⟨mo, seen, rfl, HI, hX, HKr⟩ := hrel
  clear hit HS
  have HT1 := hid (HT.out.same HKr.out)
  have hlen := leftN_eq HI.out HT1.out.out
  rcases run_next_kv (P := Try.prog) (ty := 0) HI.out HT1.out.out HT1.out.ok.lt (Nat.le_refl _) with ⟨h0, hrun⟩ | ⟨e, he, w1, hw, hrun⟩
  ·rw [h0] at hX
   have hmo : mo = N := by simpa [sumKV] using hX
   subst hmo
   go_wp2
   go_ret
   exact ⟨rfl, HKr.out⟩
  ·obtain ⟨g1, g2, g3⟩ := next_facts (e := e) HI.out HT1.out.out hw
   have hen := run_entry_kv (P := Try.prog) g1 g2 (mem_left he) HT1.out.ok
   obtain ⟨te, hte, rfl⟩ := List.mem_map.1 (mem_left he)
   have hlt := leftKV_push HT1.out.ok.stamps he
   have hlen' := leftN_eq g1 g2
   have hp := sumKV_perm (innN tt) (leftKV_perm HT1.out.ok.stamps he)
   rw [sumKV] at hp
   have hin := innN_at HT.out.blks hte
   have hib := (HT1.out.inn te hte).kept g3 (fun e' => HI.out.ne (HT1.out.inn te hte) e')
   have hle := run_len_map (P := Try.prog) (T := 62) (ty := 3) hib Try.underlying62
   dsimp only [TE.kv] at hp hrun hen hlt hlen' g1 g2 g3 hle hib
   rw [hin] at hp
   rw [List.length_map] at hle
   have G1 := hid g1
   have G3 := (show Hid (Same w _) from HKr.out.next g3 (fun i hi e' => by omega))
   clear g1 g2 g3 hw he hib
   generalize setIt w1 r B ck (seen.push te.st) ck = w4 at *
   generalize te.inn.length = k at *
   have hbig : mo + k ≤ N := by omega
   go_wp2_with fail
   refine ⟨⟨mo + k, seen.push te.st, by go_num, G1, by omega, G3⟩, by omega⟩
theorem openLocks_any (x : FR) (w : World) (hv : RdF 3 w x) (hr : (tri x.bs).Pairwise ltK) :
  Calls Try.prog 27 #[x.v] w fun e w' => e = .returned (.map (some w.heap.size)) ∧ ∃ tt, (∃ ck, Tab w' w.heap.size w.heap.size tt ck) ∧ (cont tt).Perm (tri x.bs) ∧ Same w w' ∧ Full tt := by
 obtain ⟨xe, xa, n, xc, bs⟩ := x
 have hm : n ≤ maxLen := hv.1
 unfold maxLen at hm
 have hl := tri_length n bs hv.2.1
 dsimp only [FR.v] at hr ⊢
 have HV := hid hv
 have HL := hid hl
 have HR := hid hr
 clear hv hl hr
 obtain ⟨B, hB⟩ : ∃ B, w.heap.size = B := ⟨_, rfl⟩
 have mk : (Instr.makeMap 45 none).run Try.prog w = .ok (.map (some B)) (w.alloc (.map #[] 0)) := by rw [← hB]; exact run_makeMap _ _
 have HT0 := (show Hid (Tab (w.alloc (.map #[] 0)) B B [] 0) from by unfold Hid; rw [← hB]; exact Tab.new w)
 have HS0 := (show Hid (Same w (w.alloc (.map #[] 0))) from (Kept.refl _ _).alloc _)
 rw [hB]
 go_enter Try.func27, Try.ntmps27
 go_wp2
 go_loopw [9] (fun i wr => ∃ k : Nat, k ≤ n ∧ i = .int .i64 k ∧ Hid (∃ tt, (∃ ck, Tab wr B B tt ck) ∧ (cont tt).Perm ((tri bs).take k) ∧ Full tt) ∧ Hid (Same w wr)) (fun i _ => n - (intOf i).toNat)
 case atStart => exact ⟨0, Nat.zero_le _, rfl, hid ⟨[], ⟨0, HT0.out⟩, List.Perm.refl _, fun _ h => by simp at h⟩, HS0⟩
 case round =>
  obtain ⟨k, hk, rfl, HA, HK⟩ := hrel
  by_cases hlt : k < n
  ·obtain ⟨b, off, ha, hc⟩ := HV.out.some (show 0 < n by omega)
   dsimp only at ha hc
   subst ha
   have hla : k < (tri bs).length := by rw [HL.out]; omega
   obtain ⟨tt, ⟨ck, htab⟩, hperm, hfull⟩ := HA.out
   have HFu := hid hfull
   clear hfull
   obtain ⟨⟨x, y, z⟩, hxa⟩ : ∃ q, (tri bs)[k] = q := ⟨_, rfl⟩
   obtain ⟨da0, da1, da2⟩ := (HV.out.same HK.out).tri k hla _ _ _ hxa
   have HP := hid hperm
   have HT := hid htab
   have HX := hid hxa
   clear HA htab hperm hxa HT0 HS0 mk
   have HKa := (show Hid (Same w (wr.alloc (.cells #[.int .i64 x, .int .i64 y, .int .i64 z] 51))) from HK.out.alloc _)
   obtain ⟨l0, l1, l2⟩ := (Blk.newL wr [.int .i64 x, .int .i64 y, .int .i64 z] 51).all3
   have kp := put_any (wr.alloc (.cells #[.int .i64 x, .int .i64 y, .int .i64 z] 51)) B B ck tt (x, y, z) (HT.out.same ((Kept.refl _ _).alloc _))
   dsimp only at kp
   have HF := (show Hid (((x, y, z) :: (cont tt).filter (fun q => !keyB (x, y, z) q)).Perm ((tri bs).take (k + 1))) from by
    have hf : (cont tt).filter (fun q => !keyB (x, y, z) q) = cont tt := by
     rw [List.filter_eq_self]
     intro q hq
     have hq' := HP.out.mem_iff.1 hq
     obtain ⟨j, hj, hjq⟩ := List.mem_iff_getElem.1 hq'
     rw [List.length_take] at hj
     rw [List.getElem_take] at hjq
     have hlt2 := List.pairwise_iff_getElem.1 HR.out j k (by omega) hla (by omega)
     rw [hjq, HX.out] at hlt2
     unfold ltK at hlt2
     dsimp only at hlt2
     simp only [keyB, Bool.not_eq_true', Bool.and_eq_false_iff, decide_eq_false_iff_not]
     omega
    unfold Hid
    rw [hf, List.take_succ_eq_append_getElem hla, HX.out]
    exact (HP.out.cons _).trans (List.perm_append_singleton _ _).symm)
   clear HP
   go_wp2_with fail
   refine kp.mono ?_
   rintro e w1 ⟨rfl, tt', htab', hperm', hk1, hfu⟩
   have HA' := (show Hid (∃ tt, (∃ ck, Tab w1 B B tt ck) ∧ (cont tt).Perm ((tri bs).take (k + 1)) ∧ Full tt) from ⟨tt', htab', hperm'.trans HF.out, hfu HFu.out⟩)
   have HK' := (show Hid (Same w w1) from HKa.out.next hk1 (fun i hi hb => by omega))
   clear kp hk1 htab' hperm' hfu l0 l1 l2 da0 da1 da2
   go_wp2
   go_roundw
   case rel => exact ⟨k + 1, by omega, by go_num, HA', HK'⟩
   case measure => simp [intOf]; omega
  ·obtain rfl : n = k := by omega
   obtain ⟨tt, htab, hperm, hfull⟩ := HA.out
   have HFu := hid hfull
   clear hfull
   have HT := hid htab
   have HP := (show Hid ((cont tt).Perm (tri bs)) from by unfold Hid; rw [← HL.out, List.take_length] at hperm; exact hperm)
   clear HA htab hperm HT0 HS0 mk
   go_wp2
   go_ret
   exact ⟨rfl, tt, HT.out, HP.out, HK.out, HFu.out⟩
theorem implLockMode_any (x : FR) (txn id : Int) (w : World) (hv : RdF 3 w x) :
  Calls Try.prog 15 #[x.v, .int .i64 txn, .int .i64 id] w fun e w' => e = .returned (.int .i64 (modeP (tri x.bs) txn id)) ∧ Same w w' := by
 have k1 := implLocksFault_any x w hv
 have k2 := fun wx (h : Same w wx) (hr : (tri x.bs).Pairwise ltK) => openLocks_any x wx (hv.same h) hr
 have k3 := fun wx b0 B ck tt (h : Tab wx b0 B tt ck) (hp : (cont tt).Perm (tri x.bs)) (hr : (tri x.bs).Pairwise ltK) => mode8_any wx b0 B ck tt (tri x.bs) txn id h hp hr
 obtain ⟨xe, xa, n, xc, bs⟩ := x
 dsimp only [FR.v] at k1 k2 k3 ⊢
 clear hv
 unfold modeP
 by_cases hf : locksF (tri bs) = 0
 ·have HR := hid ((goodL_iff _).1 hf).rise
  rw [if_pos hf]
  rw [hf] at k1
  generalize modeFrom txn id (tri bs) = R at k3 ⊢
  go_enter Try.func15, Try.ntmps15
  go_wp2_with fail
  refine k1.mono ?_
  rintro e w1 ⟨rfl, hk1⟩
  have HK1 := hid hk1
  clear k1 hk1
  go_wp2_with fail
  refine (k2 _ HK1.out HR.out).mono ?_
  rintro e w2 ⟨rfl, tt, ⟨ck, htab⟩, hperm, hk2, _⟩
  have HK2 := hid (HK1.out.trans hk2)
  have k4 := k3 _ _ _ _ _ htab hperm HR.out
  clear k2 k3 hk2 htab hperm
  go_wp2_with fail
  refine k4.mono ?_
  rintro e w3 ⟨rfl, rfl⟩
  clear k4
  go_wp2
  go_ret
  exact ⟨rfl, HK2.out⟩
 ·rw [if_neg hf]
  clear k2 k3
  generalize locksF (tri bs) = F at hf k1
  go_enter Try.func15, Try.ntmps15
  go_wp2_with fail
  refine k1.mono ?_
  rintro e w1 ⟨rfl, hk1⟩
  have HK1 := hid hk1
  clear k1 hk1
  go_wp2
  go_ret
  exact ⟨rfl, HK1.out⟩
theorem implLockOthers_any (x : FR) (txn id : Int) (w : World) (hv : RdF 3 w x) :
  Calls Try.prog 12 #[x.v, .int .i64 txn, .int .i64 id] w fun e w' => e = .returned (.int .i64 (othersP (tri x.bs) txn id)) ∧ Same w w' := by
 have k1 := implLocksFault_any x w hv
 have k2 := fun wx (h : Same w wx) (hr : (tri x.bs).Pairwise ltK) => openLocks_any x wx (hv.same h) hr
 have k3 := fun wx b0 B ck tt (h : Tab wx b0 B tt ck) (hp : (cont tt).Perm (tri x.bs)) (hg : ∀ l ∈ tri x.bs, 1 ≤ l.2.2) => others8_any wx b0 B ck tt (tri x.bs) txn id h hp hg
 obtain ⟨xe, xa, n, xc, bs⟩ := x
 dsimp only [FR.v] at k1 k2 k3 ⊢
 clear hv
 unfold othersP
 by_cases hf : locksF (tri bs) = 0
 ·have HR := hid ((goodL_iff _).1 hf).rise
  have HG := (show Hid (∀ l ∈ tri bs, 1 ≤ l.2.2) from fun l hl => (((goodL_iff _).1 hf).fine l hl).2.2.1)
  rw [if_pos hf]
  rw [hf] at k1
  generalize othersFrom txn id 0 (tri bs) = R at k3 ⊢
  go_enter Try.func12, Try.ntmps12
  go_wp2_with fail
  refine k1.mono ?_
  rintro e w1 ⟨rfl, hk1⟩
  have HK1 := hid hk1
  clear k1 hk1
  go_wp2_with fail
  refine (k2 _ HK1.out HR.out).mono ?_
  rintro e w2 ⟨rfl, tt, ⟨ck, htab⟩, hperm, hk2, _⟩
  have HK2 := hid (HK1.out.trans hk2)
  have k4 := k3 _ _ _ _ _ htab hperm HG.out
  clear k2 k3 hk2 htab hperm
  go_wp2_with fail
  refine k4.mono ?_
  rintro e w3 ⟨rfl, hk3⟩
  have HK3 := hid (HK2.out.trans hk3)
  clear k4 hk3
  go_wp2
  go_ret
  exact ⟨rfl, HK3.out⟩
 ·rw [if_neg hf]
  clear k2 k3
  generalize locksF (tri bs) = F at hf k1
  go_enter Try.func12, Try.ntmps12
  go_wp2_with fail
  refine k1.mono ?_
  rintro e w1 ⟨rfl, hk1⟩
  have HK1 := hid hk1
  clear k1 hk1
  go_wp2
  go_ret
  exact ⟨rfl, HK1.out⟩
end Go.Proofs.Ytelijknekfipfaa
