import Derived.Test.YtmpfpgelaipmnabG11
import Derived.Test.YtmpfpgelaipmnabG02
import Derived.Test.YtmpfpgelaipmnabG07
import Derived.Test.YtmpfpgelaipmnabHoldFind
import Derived.Test.YtmpfpgelaipmnabG00
import Derived.Test.YtmpfpgelaipmnabG09
import Derived.Test.YtmpfpgelaipmnabOpenF
import Derived.Laws.IdiomRangeMap
import Derived.Deep.DeepCutAuto
namespace Go.Proofs.Ytmpfpgelaipmnab
set_option maxRecDepth 100000
set_option maxHeartbeats 4000000
open Go Go.RowKit Go.MapKept
set_option linter.unusedVariables false
set_option linter.unusedSimpArgs false
theorem map_mid (pre post : List TE) (e : TE) : (pre ++ e :: post).map TE.kv = pre.map TE.kv ++ (e.id, .map (some e.blk), e.st) :: post.map TE.kv := by
  rw [List.map_append, List.map_cons]; rfl
theorem imap_mid (pre post : List IE) (t m : Int) (s : Nat) : (pre ++ (t, m, s) :: post).map ikv = pre.map ikv ++ (t, .int .i64 m, s) :: post.map ikv := by
  rw [List.map_append, List.map_cons]; rfl
theorem te_miss {tt : List TE} {id : Int} (h : ∀ e ∈ tt, e.id ≠ id) : ∀ e ∈ tt.map TE.kv, e.1 ≠ id := fun e he => by
  obtain ⟨y, hy, rfl⟩ := List.mem_map.1 he
  exact h y hy
theorem ie_miss {l : List IE} {t : Int} (h : ∀ e ∈ l, e.1 ≠ t) : ∀ e ∈ l.map ikv, e.1 ≠ t := fun e he => by
  obtain ⟨y, hy, rfl⟩ := List.mem_map.1 he
  exact h y hy
theorem put_any (w : World) (b0 B ck : Nat) (tt : List TE) (l : T3) (h : Tab w b0 B tt ck) :
    Calls Try.prog 71 #[.map (some B), .agg #[.int .i64 l.1, .int .i64 l.2.1, .int .i64 l.2.2]] w fun e w' => e = .returned (.tuple #[]) ∧ ∃ tt', (∃ ck', Tab w' b0 B tt' ck') ∧ (cont tt').Perm (l :: (cont tt).filter (fun x => !keyB l x)) ∧ Kept (fun b => b0 ≤ b) w w' ∧ (Full tt → Full tt') := by
  obtain ⟨x, y, z⟩ := l
  obtain ⟨w1, hw1⟩ : ∃ w1, w1 = w.alloc (.cells #[.int .i64 x, .int .i64 y, .int .i64 z] 73) := ⟨_, rfl⟩
  have HB0 := (show Hid (Blk w1 w.heap.size 73 [.int .i64 x, .int .i64 y, .int .i64 z]) from by rw [hw1]; exact Blk.newL w _ _)
  have HK0 := (show Hid (Same w w1) from by rw [hw1]; exact sameA w [.int .i64 x, .int .i64 y, .int .i64 z] 73)
  have HT := hid (h.same HK0.out)
  have hBs := h.out.lt
  have hlow := h.low
  have hes : Hid (∀ e ∈ tt, e.blk < w.heap.size) := fun e he => (h.inn e he).lt
  have hsz : w1.heap.size = w.heap.size + 1 := by rw [hw1]; exact World.size_alloc _ _
  clear h
  dsimp only
  obtain ⟨c0, c1, c2⟩ := HB0.out.all3
  rcases te_cases x tt with hm | ⟨pre, e, post, rfl, hid0, hpre⟩
  · -- a new id
    have HM := hid hm
    clear hm
    have en := (fun w => run_eql_map_nil w 96 _ _ none Try.underlying96 : ∀ w, (binOp .eql 96 (.map none) (.map none)).run Try.prog w = .ok (.bool true) w)
    have r1 : (Instr.lookup 77 (.map (some B)) (.int .i64 x) false).run Try.prog w1 = .ok (.map none) w1 := run_lookup_miss Try.underlying77 Try.underlying2 HT.out.out (te_miss HM.out) (Try.zeroValue96 _) false
    have HKa := (show Hid (Same w1 (w1.alloc (.map #[] 0))) from (Kept.refl _ _).alloc _)
    have HN := (show Hid (MapB (w1.alloc (.map #[] 0)) (w.heap.size + 1) [] 0) from by have h := MapB.new w1; rw [hsz] at h; exact h)
    have mk : (Instr.makeMap 96 none).run Try.prog w1 = .ok (.map (some (w.heap.size + 1))) (w1.alloc (.map #[] 0)) := by rw [← hsz]; exact run_makeMap _ _
    obtain ⟨w3, hw3⟩ : ∃ w3, w3 = setM (w1.alloc (.map #[] 0)) B (tt.map TE.kv ++ [(x, .map (some (w.heap.size + 1)), ck)]) (ck + 1) := ⟨_, rfl⟩
    have r2 : (Instr.mapUpdate 77 (.map (some B)) (.int .i64 x) (.map (some (w.heap.size + 1)))).run Try.prog (w1.alloc (.map #[] 0)) = .ok () w3 := by
      rw [hw3]
      exact run_update_new Try.underlying77 Try.underlying2 (HT.out.out.same HKa.out) (te_miss HM.out)
    obtain ⟨a0, a1, a2⟩ := (HB0.out.same HKa.out).all3
    have HKb := (show Hid (Kept (fun b => b = B) (w1.alloc (.map #[] 0)) w3) from by rw [hw3]; exact Kept.setM _ _)
    have HMB := (show Hid (MapB w3 B (tt.map TE.kv ++ [(x, .map (some (w.heap.size + 1)), ck)]) (ck + 1)) from by rw [hw3]; exact MapB.set (HT.out.out.same HKa.out))
    have HT2 := hid ((HT.out.same HKa.out).snoc HM.out HN.out (by omega) (fun e he h => by have := hes.out e he; omega) (by omega) (by rw [List.map_append]; exact HMB.out) HKb.out)
    have HB2 := hid ((HB0.out.same HKa.out).kept HKb.out (fun e => by omega))
    have HK2 := (show Hid (Kept (fun b => b0 ≤ b) w w3) from ((HK0.out.trans HKa.out).mono (fun _ _ h => h.elim)).next HKb.out (fun i _ e => by rw [e]; exact hlow))
    obtain ⟨d0, d1, d2⟩ := HB2.out.all3
    have r3 : (Instr.lookup 77 (.map (some B)) (.int .i64 x) false).run Try.prog w3 = .ok (.map (some (w.heap.size + 1))) w3 := run_lookup_hit (pre := tt.map TE.kv) (post := []) (b := ck) Try.underlying77 Try.underlying2 HMB.out (te_miss HM.out) false
    have HI := hid (HT2.out.inn ⟨x, w.heap.size + 1, ck, [], 0⟩ (List.mem_append_right _ (List.mem_singleton.2 rfl)))
    obtain ⟨w4, hw4⟩ : ∃ w4, w4 = setM w3 (w.heap.size + 1) ([] ++ [(y, .int .i64 z, 0)]) (0 + 1) := ⟨_, rfl⟩
    have r4 : (Instr.mapUpdate 96 (.map (some (w.heap.size + 1))) (.int .i64 y) (.int .i64 z)).run Try.prog w3 = .ok () w4 := by
      rw [hw4]
      exact run_update_new Try.underlying96 Try.underlying2 HI.out (fun _ h => by simp at h)
    have HKc := (show Hid (Kept (fun b => b = w.heap.size + 1) w3 w4) from by rw [hw4]; exact Kept.setM _ _)
    have HT3 := hid (HT2.out.inner (w' := w4) (pre := tt) (post := []) (e := ⟨x, w.heap.size + 1, ck, [], 0⟩) (e' := ⟨x, w.heap.size + 1, ck, [(y, z, 0)], 0 + 1⟩) rfl rfl rfl (by rw [hw4]; exact MapB.set HI.out) (KVok.snoc (KVok.nil 0) (fun _ h => by simp at h)) HKc.out)
    have HK3 := (show Hid (Kept (fun b => b0 ≤ b) w w4) from HK2.out.next HKc.out (fun i _ e => by omega))
    clear hw3 hw4 HKb HKc HB2 HK2 HT2 HMB HN HKa HT HI HB0 HK0 hes hsz
    subst hw1
    go_enter Try.func71, Try.ntmps71
    go_wp2
    refine bodyPost_end (results_none Try.results71 _ _ _) rfl ?_
    exact ⟨rfl, _, ⟨_, HT3.out⟩, put_new (l := (x, y, z)) HM.out _ _ _ _, HK3.out, fun h => h.snoc (by simp)⟩
  · subst hid0
    have es := (fun w => run_eql_map_nil w 96 _ _ (some e.blk) Try.underlying96 : ∀ w, (binOp .eql 96 (.map (some e.blk)) (.map none)).run Try.prog w = .ok (.bool false) w)
    have r1 : (Instr.lookup 77 (.map (some B)) (.int .i64 e.id) false).run Try.prog w1 = .ok (.map (some e.blk)) w1 := run_lookup_hit (pre := pre.map TE.kv) (post := post.map TE.kv) (b := e.st) Try.underlying77 Try.underlying2 (by have h := HT.out.out; rw [map_mid] at h; exact h) (te_miss hpre) false
    have HI := hid (HT.out.inn e (List.mem_append_right _ List.mem_cons_self))
    have HO := hid (HT.out.iok e (List.mem_append_right _ List.mem_cons_self))
    have hlo := HT.out.lows e (List.mem_append_right _ List.mem_cons_self)
    rcases ie_cases y e.inn with hm | ⟨pr, m, s, po, hin, hpr⟩
    · obtain ⟨w4, hw4⟩ : ∃ w4, w4 = setM w1 e.blk (e.inn.map ikv ++ [(y, .int .i64 z, e.ck)]) (e.ck + 1) := ⟨_, rfl⟩
      have r4 : (Instr.mapUpdate 96 (.map (some e.blk)) (.int .i64 y) (.int .i64 z)).run Try.prog w1 = .ok () w4 := by
        rw [hw4]
        exact run_update_new Try.underlying96 Try.underlying2 HI.out (ie_miss hm)
      have HKc := (show Hid (Kept (fun b => b = e.blk) w1 w4) from by rw [hw4]; exact Kept.setM _ _)
      have HT3 := hid (HT.out.inner (w' := w4) (e' := { e with inn := e.inn ++ [(y, z, e.ck)], ck := e.ck + 1 }) rfl rfl rfl (by rw [List.map_append, hw4]; exact MapB.set HI.out) (by rw [List.map_append]; exact HO.out.snoc (ie_miss hm)) HKc.out)
      have HK3 := (show Hid (Kept (fun b => b0 ≤ b) w w4) from (HK0.out.mono (fun _ _ h => h.elim)).next HKc.out (fun i _ e' => by rw [e']; exact hlo))
      have HC := hid (put_old HT.out (l := (e.id, y, z)) rfl (ck' := e.ck + 1) (put_miss (l := (e.id, y, z)) rfl hm e.ck))
      clear hw4 hm HKc HT HI HO HB0 HK0 hes hsz hpre
      subst hw1
      go_enter Try.func71, Try.ntmps71
      go_wp2
      refine bodyPost_end (results_none Try.results71 _ _ _) rfl ?_
      exact ⟨rfl, _, ⟨_, HT3.out⟩, HC.out, HK3.out, fun h => h.mid (by simp)⟩
    · obtain ⟨w4, hw4⟩ : ∃ w4, w4 = setM w1 e.blk (pr.map ikv ++ (y, .int .i64 z, s) :: po.map ikv) e.ck := ⟨_, rfl⟩
      have r4 : (Instr.mapUpdate 96 (.map (some e.blk)) (.int .i64 y) (.int .i64 z)).run Try.prog w1 = .ok () w4 := by
        rw [hw4]
        exact run_update_hit (v := .int .i64 m) Try.underlying96 Try.underlying2 (by have h := HI.out; rw [hin, imap_mid] at h; exact h) (ie_miss hpr)
      have HKc := (show Hid (Kept (fun b => b = e.blk) w1 w4) from by rw [hw4]; exact Kept.setM _ _)
      have HT3 := hid (HT.out.inner (w' := w4) (e' := { e with inn := pr ++ (y, z, s) :: po, ck := e.ck }) rfl rfl rfl (by rw [imap_mid, hw4]; exact MapB.set HI.out) (by have h := HO.out; rw [hin, imap_mid] at h; rw [imap_mid]; exact h.store) HKc.out)
      have HK3 := (show Hid (Kept (fun b => b0 ≤ b) w w4) from (HK0.out.mono (fun _ _ h => h.elim)).next HKc.out (fun i _ e' => by rw [e']; exact hlo))
      have HC := hid (put_old HT.out (l := (e.id, y, z)) rfl (ck' := e.ck) (put_hit (l := (e.id, y, z)) rfl hin HO.out))
      clear hw4 hin hpr HKc HT HI HO HB0 HK0 hes hsz hpre
      subst hw1
      go_enter Try.func71, Try.ntmps71
      go_wp2
      refine bodyPost_end (results_none Try.results71 _ _ _) rfl ?_
      exact ⟨rfl, _, ⟨_, HT3.out⟩, HC.out, HK3.out, fun h => h.mid (by simp)⟩
def mostKV (txn : Int) : List KV → Int
  | [] => 0
  | e :: r => if e.1 = txn then mostKV txn r else max (intOf e.2.1) (mostKV txn r)
theorem mostKV_perm (txn : Int) {l l' : List KV} (h : l.Perm l') : mostKV txn l = mostKV txn l' := by
  induction h with
  | nil => rfl
  | cons x _ ih => simp only [mostKV, ih]
  | swap x y l =>
    simp only [mostKV]
    split <;> split <;> first | rfl | omega
  | trans _ _ h1 h2 => exact h1.trans h2
theorem mostKV_spec (txn : Int) : ∀ l : List IE, (∀ x ∈ l, 0 ≤ x.2.1) → 0 ≤ mostKV txn (l.map ikv) ∧ (∀ x ∈ l, x.1 ≠ txn → x.2.1 ≤ mostKV txn (l.map ikv)) ∧ (mostKV txn (l.map ikv) = 0 ∨ ∃ x ∈ l, x.1 ≠ txn ∧ x.2.1 = mostKV txn (l.map ikv))
  | [], _ => ⟨by simp [mostKV], fun _ h => by simp at h, .inl rfl⟩
  | e :: r, h => by
    obtain ⟨h1, h2, h3⟩ := mostKV_spec txn r (fun x hx => h x (List.mem_cons_of_mem _ hx))
    have h0 := h e List.mem_cons_self
    have hd : mostKV txn ((e :: r).map ikv) = if e.1 = txn then mostKV txn (r.map ikv) else max e.2.1 (mostKV txn (r.map ikv)) := rfl
    rw [hd]
    by_cases he : e.1 = txn
    · rw [if_pos he]
      refine ⟨h1, fun x hx hn => ?_, ?_⟩
      · rcases List.mem_cons.1 hx with rfl | hx
        · exact absurd he hn
        · exact h2 x hx hn
      · rcases h3 with h3 | ⟨x, hx, h4, h5⟩
        · exact .inl h3
        · exact .inr ⟨x, List.mem_cons_of_mem _ hx, h4, h5⟩
    · rw [if_neg he]
      refine ⟨by omega, fun x hx hn => ?_, ?_⟩
      · rcases List.mem_cons.1 hx with rfl | hx
        · omega
        · have := h2 x hx hn; omega
      · by_cases hg : mostKV txn (r.map ikv) ≤ e.2.1
        · exact .inr ⟨e, List.mem_cons_self, he, by omega⟩
        · rcases h3 with h3 | ⟨x, hx, h4, h5⟩
          · omega
          · exact .inr ⟨x, List.mem_cons_of_mem _ hx, h4, by omega⟩
theorem others_eq {w : World} {b0 B ck : Nat} {pre post : List TE} {e : TE} {ls : List T3} (h : Tab w b0 B (pre ++ e :: post) ck) (hp : (cont (pre ++ e :: post)).Perm ls) (hg : ∀ l ∈ ls, 1 ≤ l.2.2) (txn : Int) :
    mostKV txn (e.inn.map ikv) = othersFrom txn e.id 0 ls := by
  have hin : ∀ x ∈ e.inn, ((e.id, x.1, x.2.1) : T3) ∈ ls := fun x hx => hp.mem_iff.1 (mem_cont.2 ⟨e, List.mem_append_right _ List.mem_cons_self, rfl, x, hx, rfl, rfl⟩)
  obtain ⟨h1, h2, h3⟩ := mostKV_spec txn e.inn (fun x hx => by have := hg _ (hin x hx); dsimp only at this; omega)
  obtain ⟨g1, g2, g3⟩ := othersFrom_spec txn e.id ls 0
  have a1 : mostKV txn (e.inn.map ikv) ≤ othersFrom txn e.id 0 ls := by
    rcases h3 with h3 | ⟨x, hx, h4, h5⟩
    · omega
    · have := g2 _ (hin x hx) rfl h4
      dsimp only at this
      omega
  have a2 : othersFrom txn e.id 0 ls ≤ mostKV txn (e.inn.map ikv) := by
    rcases g3 with g3 | ⟨l, hl, h4, h5, h6⟩
    · omega
    · obtain ⟨y, hy, h7, x, hx, h8, h9⟩ := mem_cont.1 (hp.mem_iff.2 hl)
      have : y = e := by
        rcases List.mem_append.1 hy with q | q
        · exact absurd (h7.trans h4) (h.once y (List.mem_append_left _ q))
        · rcases List.mem_cons.1 q with q | q
          · exact q
          · exact absurd (h7.trans h4) (h.once y (List.mem_append_right _ q))
      subst this
      have := h2 x hx (by rw [h8]; exact h5)
      omega
  omega
theorem others_miss {tt : List TE} {ls : List T3} (hp : (cont tt).Perm ls) {txn id : Int} (hm : ∀ e ∈ tt, e.id ≠ id) : othersFrom txn id 0 ls = 0 := by
  obtain ⟨g1, g2, g3⟩ := othersFrom_spec txn id ls 0
  rcases g3 with g3 | ⟨l, hl, h4, _⟩
  · exact g3
  · obtain ⟨y, hy, h7, _⟩ := mem_cont.1 (hp.mem_iff.2 hl)
    exact absurd (h7.trans h4) (hm y hy)
theorem others8_any (w : World) (b0 B ck : Nat) (tt : List TE) (ls : List T3) (txn id : Int) (h : Tab w b0 B tt ck) (hp : (cont tt).Perm ls) (hg : ∀ l ∈ ls, 1 ≤ l.2.2) :
    Calls Try.prog 52 #[.map (some B), .int .i64 txn, .int .i64 id] w fun e w' => e = .returned (.int .i64 (othersFrom txn id 0 ls)) ∧ Same w w' := by
  rcases te_cases id tt with hm | ⟨pre, e, post, rfl, hid0, hpre⟩
  · have r1 : (Instr.lookup 77 (.map (some B)) (.int .i64 id) false).run Try.prog w = .ok (.map none) w := run_lookup_miss Try.underlying77 Try.underlying2 h.out (te_miss hm) (Try.zeroValue96 _) false
    rw [others_miss hp hm]
    have r2 := run_range_nilMap (P := Try.prog) w 96 _ _ Try.underlying96
    have r3 : (Instr.next (.pointer (some ⟨w.heap.size, 0, none⟩)) false 0).run Try.prog (w.alloc (.mapIter none 0 #[] 0)) = .ok (.tuple #[.bool false]) (w.alloc (.mapIter none 0 #[] 0)) := run_next_nilMap _ 0 0 0 #[]
    clear h hp hg hm
    go_enter Try.func52, Try.ntmps52
    go_wp2
    refine wp_loop_rounds 1 ?_
    rw [rounds_succ]
    go_wp2
    go_ret
    exact ⟨rfl, (Kept.refl _ _).alloc _⟩
  · subst hid0
    have r1 : (Instr.lookup 77 (.map (some B)) (.int .i64 e.id) false).run Try.prog w = .ok (.map (some e.blk)) w := run_lookup_hit (pre := pre.map TE.kv) (post := post.map TE.kv) (b := e.st) Try.underlying77 Try.underlying2 (by have h := h.out; rw [map_mid] at h; exact h) (te_miss hpre) false
    have he : e ∈ pre ++ e :: post := List.mem_append_right _ List.mem_cons_self
    have hb' := h.inn e he
    have hk := h.iok e he
    have hnn : Hid (∀ x ∈ e.inn, 0 ≤ x.2.1) := fun x hx => by
      have := hg (e.id, x.1, x.2.1) (hp.mem_iff.1 (mem_cont.2 ⟨e, he, rfl, x, hx, rfl, rfl⟩))
      dsimp only at this
      omega
    rw [← others_eq h hp hg txn]
    have r2 := run_range_map (P := Try.prog) (T := 96) Try.underlying96 hb'
    have H2 := hid hb'
    have HN := hid hk
    clear h hp hg hpre he hb' hk
    generalize e.inn = inn at H2 HN hnn ⊢
    generalize e.ck = ck at *
    generalize e.blk = B' at *
    generalize e.id = id at *
    clear pre post e
    go_enter Try.func52, Try.ntmps52
    go_wp2_with fail
    obtain ⟨r, hr⟩ : ∃ r, w.heap.size = r := ⟨_, rfl⟩
    have hit : IterB (w.alloc (.mapIter (some B') ck #[] ck)) r B' ck #[] ck := hr ▸ IterB.new w B' ck
    have hmb : MapB (w.alloc (.mapIter (some B') ck #[] ck)) B' (inn.map ikv) ck := H2.out.same ((Kept.refl _ _).alloc _)
    have HS := (show Hid (Same w (w.alloc (.mapIter (some B') ck #[] ck))) from (Kept.refl _ _).alloc _)
    have hrw : w.heap.size ≤ r := by omega
    clear r1 r2 H2
    rw [hr]
    generalize (w.alloc (.mapIter (some B') ck #[] ck)) = w3 at hit hmb HS ⊢
    go_loopw [7] (fun m wr => ∃ (mo : Int) (seen : Array Nat), m = .int .i64 mo ∧ Hid (IterB wr r B' ck seen ck) ∧ Hid (MapB wr B' (inn.map ikv) ck) ∧ 0 ≤ mo ∧ Hid (max mo (mostKV txn (leftKV (inn.map ikv) seen)) = mostKV txn (inn.map ikv)) ∧ Hid (Same w wr)) (fun _ wr => leftN wr r B')
    case atStart => exact ⟨0, #[], rfl, hid hit, hid hmb, Int.le_refl _, hid (by rw [leftKV_nil]; have := (mostKV_spec txn inn hnn.out).1; omega), HS⟩
    case round =>
      obtain ⟨mo, seen, rfl, HI, HM, h00, HX, HKr⟩ := hrel
      clear hit hmb HS
      have hlen := leftN_eq HI.out HM.out
      rcases run_next_kv (P := Try.prog) (ty := 0) HI.out HM.out HN.out.lt (Nat.le_refl _) with ⟨h0, hrun⟩ | ⟨e, he, w1, hw, hrun⟩
      · have hx := HX.out
        rw [h0] at hx
        simp only [mostKV] at hx
        have HE := (show Hid (mo = mostKV txn (inn.map ikv)) from by unfold Hid; rw [← hx]; omega)
        clear hx HX
        go_wp2
        go_ret
        exact ⟨by rw [← HE.out]; rfl, HKr.out⟩
      · obtain ⟨g1, g2, g3⟩ := next_facts (e := e) HI.out HM.out hw
        have hen := run_entry_kv (P := Try.prog) g1 g2 (mem_left he) HN.out
        obtain ⟨⟨t, mm, s⟩, hxi, hmm⟩ := List.mem_map.1 (mem_left he)
        have hlt := leftKV_push HN.out.stamps he
        have hlen' := leftN_eq g1 g2
        have hp := mostKV_perm txn (leftKV_perm HN.out.stamps he)
        rw [mostKV] at hp
        subst hmm
        dsimp only [ikv, intOf] at hp hrun hen hlt hlen' g1 g2 g3
        have hmm0 := hnn.out _ hxi
        dsimp only at hmm0
        have G1 := hid g1
        have G2 := hid g2
        have G3 := (show Hid (Same w _) from HKr.out.next g3 (fun i hi e' => by omega))
        clear g1 g2 g3 hw he hxi
        generalize setIt w1 r B' ck (seen.push s) ck = w4 at *
        by_cases hq : t = txn
        · subst hq
          replace hp : mostKV t (leftKV (inn.map ikv) seen) = mostKV t (leftKV (inn.map ikv) (seen.push s)) := hp.trans (if_pos rfl)
          go_wp2_with fail
          refine ⟨⟨_, seen.push s, rfl, G1, G2, h00, hid ?_, G3⟩, by omega⟩
          have := HX.out
          omega
        · replace hp : mostKV txn (leftKV (inn.map ikv) seen) = max mm (mostKV txn (leftKV (inn.map ikv) (seen.push s))) := hp.trans (if_neg hq)
          go_wp2_with fail
          refine ⟨⟨_, seen.push s, rfl, G1, G2, (by first | omega | (split <;> omega)), hid ?_, G3⟩, by omega⟩
          have := HX.out
          split <;> omega
theorem openLocks_any (x : FR) (w : World) (hv : RdF 3 w x) (hr : (tri x.bs).Pairwise ltK) :
    Calls Try.prog 50 #[x.v] w fun e w' => e = .returned (.map (some w.heap.size)) ∧ ∃ tt, (∃ ck, Tab w' w.heap.size w.heap.size tt ck) ∧ (cont tt).Perm (tri x.bs) ∧ Same w w' ∧ Full tt := by
  obtain ⟨xe, xa, n, xc, bs⟩ := x
  have hm : n ≤ maxLen := hv.1
  unfold maxLen at hm
  have hl := tri_length n bs hv.2.1
  dsimp only [FR.v] at hr ⊢
  have HV := hid hv
  have HL := hid hl
  have HR := hid hr
  clear hv hl hr
  obtain ⟨B, hB⟩ : ∃ B, w.heap.size = B := ⟨_, rfl⟩
  have mk : (Instr.makeMap 77 none).run Try.prog w = .ok (.map (some B)) (w.alloc (.map #[] 0)) := by rw [← hB]; exact run_makeMap _ _
  have HT0 := (show Hid (Tab (w.alloc (.map #[] 0)) B B [] 0) from by unfold Hid; rw [← hB]; exact Tab.new w)
  have HS0 := (show Hid (Same w (w.alloc (.map #[] 0))) from (Kept.refl _ _).alloc _)
  rw [hB]
  go_enter Try.func50, Try.ntmps50
  go_wp2
  go_loopw [9] (fun i wr => ∃ k : Nat, k ≤ n ∧ i = .int .i64 k ∧ Hid (∃ tt, (∃ ck, Tab wr B B tt ck) ∧ (cont tt).Perm ((tri bs).take k) ∧ Full tt) ∧ Hid (Same w wr)) (fun i _ => n - (intOf i).toNat)
  case atStart => exact ⟨0, Nat.zero_le _, rfl, hid ⟨[], ⟨0, HT0.out⟩, List.Perm.refl _, fun _ h => by simp at h⟩, HS0⟩
  case round =>
    obtain ⟨k, hk, rfl, HA, HK⟩ := hrel
    by_cases hlt : k < n
    · obtain ⟨b, off, ha, hc⟩ := HV.out.some (show 0 < n by omega)
      dsimp only at ha hc
      subst ha
      have hla : k < (tri bs).length := by rw [HL.out]; omega
      obtain ⟨tt, ⟨ck, htab⟩, hperm, hfull⟩ := HA.out
      have HFu := hid hfull
      clear hfull
      obtain ⟨⟨x, y, z⟩, hxa⟩ : ∃ q, (tri bs)[k] = q := ⟨_, rfl⟩
      obtain ⟨da0, da1, da2⟩ := (HV.out.same HK.out).tri k hla _ _ _ hxa
      have HP := hid hperm
      have HT := hid htab
      have HX := hid hxa
      clear HA htab hperm hxa HT0 HS0 mk
      have HKa := (show Hid (Same w (wr.alloc (.cells #[.int .i64 x, .int .i64 y, .int .i64 z] 73))) from HK.out.alloc _)
      obtain ⟨l0, l1, l2⟩ := (Blk.newL wr [.int .i64 x, .int .i64 y, .int .i64 z] 73).all3
      have kp := put_any (wr.alloc (.cells #[.int .i64 x, .int .i64 y, .int .i64 z] 73)) B B ck tt (x, y, z) (HT.out.same ((Kept.refl _ _).alloc _))
      dsimp only at kp
      have HF := (show Hid (((x, y, z) :: (cont tt).filter (fun q => !keyB (x, y, z) q)).Perm ((tri bs).take (k + 1))) from by
        have hf : (cont tt).filter (fun q => !keyB (x, y, z) q) = cont tt := by
          rw [List.filter_eq_self]
          intro q hq
          have hq' := HP.out.mem_iff.1 hq
          obtain ⟨j, hj, hjq⟩ := List.mem_iff_getElem.1 hq'
          rw [List.length_take] at hj
          rw [List.getElem_take] at hjq
          have hlt2 := List.pairwise_iff_getElem.1 HR.out j k (by omega) hla (by omega)
          rw [hjq, HX.out] at hlt2
          unfold ltK at hlt2
          dsimp only at hlt2
          simp only [keyB, Bool.not_eq_true', Bool.and_eq_false_iff, decide_eq_false_iff_not]
          omega
        unfold Hid
        rw [hf, List.take_succ_eq_append_getElem hla, HX.out]
        exact (HP.out.cons _).trans (List.perm_append_singleton _ _).symm)
      clear HP
      go_wp2_with fail
      refine kp.mono ?_
      rintro e w1 ⟨rfl, tt', htab', hperm', hk1, hfu⟩
      have HA' := (show Hid (∃ tt, (∃ ck, Tab w1 B B tt ck) ∧ (cont tt).Perm ((tri bs).take (k + 1)) ∧ Full tt) from ⟨tt', htab', hperm'.trans HF.out, hfu HFu.out⟩)
      have HK' := (show Hid (Same w w1) from HKa.out.next hk1 (fun i hi hb => by omega))
      clear kp hk1 htab' hperm' hfu l0 l1 l2 da0 da1 da2
      go_wp2
      go_roundw
      case rel => exact ⟨k + 1, by omega, by go_num, HA', HK'⟩
      case measure => simp [intOf]; omega
    · obtain rfl : n = k := by omega
      obtain ⟨tt, htab, hperm, hfull⟩ := HA.out
      have HFu := hid hfull
      clear hfull
      have HT := hid htab
      have HP := (show Hid ((cont tt).Perm (tri bs)) from by unfold Hid; rw [← HL.out, List.take_length] at hperm; exact hperm)
      clear HA htab hperm HT0 HS0 mk
      go_wp2
      go_ret
      exact ⟨rfl, tt, HT.out, HP.out, HK.out, HFu.out⟩
end Go.Proofs.Ytmpfpgelaipmnab

namespace Go.Proofs.Ytmpfpgelaipmnab
set_option maxRecDepth 100000
set_option maxHeartbeats 4000000
open Go.RowKit
set_option linter.unusedVariables false
set_option linter.unusedSimpArgs false
theorem freshF_at {f : Nat → Bool} {n k : Nat} (h : k < n) : freshF f (n - k) k = if f k = true then (k : Int) else freshF f (n - (k + 1)) (k + 1) := by
  rw [show n - k = (n - (k + 1)) + 1 from by omega]
  rfl
theorem specFreshId_any (v : Value) (zs : List Int) (x y : FR) (txn len : Int) (w : World) (hv : Rd .i64 w v zs) (hx : RdF 3 w x) (hy : RdF 3 w y) :
    Calls Try.prog 22 #[v, x.v, y.v, .int .i64 txn, .int .i64 len] w fun e w' => e = .returned (.int .i64 (freshI zs (tri x.bs) (tri y.bs) txn len)) ∧ Same w w' := by
  have k0 := specLengths_any v zs w hv
  have k1 := fun wx (hk : Same w wx) => specHoldsFault_any x wx (hx.same hk)
  have k2 := fun wx (hk : Same w wx) => specLocksFault_any y wx (hy.same hk)
  have k3 := fun wx (hk : Same w wx) id => specHold_any x id wx (hx.same hk)
  have k4 := fun wx (hk : Same w wx) id => specLockOthers_any y txn id wx (hy.same hk)
  have k5 := fun wx (hk : Same w wx) id (h63 : id ≤ 9223372036854775807) => specRoomFor_any v zs x id len wx h63 (hv.same hk) (hx.same hk)
  obtain ⟨a, c, rfl⟩ := hv.form
  obtain ⟨xe, xa, xn, xc, bs⟩ := x
  obtain ⟨ye, ya, yn, yc, ls⟩ := y
  dsimp only [FR.v] at k0 k1 k2 k3 k4 k5 ⊢
  have HV := hid hv
  have hmax : zs.length ≤ maxLen := hv.1
  unfold maxLen at hmax
  clear hv hx hy
  obtain ⟨R, hR⟩ : ∃ R, freshI zs (tri bs) (tri ls) txn len = R := ⟨_, rfl⟩
  rw [hR]
  unfold freshI at hR
  cases f0 : lenOK zs with
  | false =>
    rw [f0] at k0
    rw [if_pos (.inl f0)] at hR
    subst hR
    go_enter Try.func22, Try.ntmps22
    go_wp2_with fail
    refine k0.mono ?_
    rintro e w1 ⟨rfl, hk1⟩
    go_wp2
    go_ret
    exact ⟨rfl, hk1⟩
  | true =>
  rw [f0] at k0
  obtain ⟨q, hq⟩ : ∃ q, holdsF (tri bs) = q := ⟨_, rfl⟩
  rw [hq] at k1 hR
  obtain ⟨q2, hq2⟩ : ∃ q, locksF (tri ls) = q := ⟨_, rfl⟩
  rw [hq2] at k2 hR
  by_cases h0 : q = 0
  case neg =>
    rw [if_pos (.inr (.inl h0))] at hR
    subst hR
    go_enter Try.func22, Try.ntmps22
    go_wp2_with (first
      | (go_at_call 45; (with_reducible refine k0.mono ?_); rintro e w1 ⟨rfl, hk1⟩; have HK1 := (show Hid (Same w w1) from hk1); clear hk1 k0)
      | (go_at_call 30; (with_reducible refine (k1 _ HK1.out).mono ?_); rintro e w2 ⟨rfl, hk2⟩; have HK2 := hid (HK1.out.trans hk2); clear hk2 k1))
    go_ret
    exact ⟨rfl, HK2.out⟩
  subst h0
  by_cases h2 : q2 = 0
  case neg =>
    rw [if_pos (.inr (.inr h2))] at hR
    subst hR
    go_enter Try.func22, Try.ntmps22
    go_wp2_with (first
      | (go_at_call 45; (with_reducible refine k0.mono ?_); rintro e w1 ⟨rfl, hk1⟩; have HK1 := (show Hid (Same w w1) from hk1); clear hk1 k0)
      | (go_at_call 30; (with_reducible refine (k1 _ HK1.out).mono ?_); rintro e w2 ⟨rfl, hk2⟩; have HK2 := hid (HK1.out.trans hk2); clear hk2 k1)
      | (go_at_call 46; (with_reducible refine (k2 _ HK2.out).mono ?_); rintro e w3 ⟨rfl, hk3⟩; have HK3 := hid (HK2.out.trans hk3); clear hk3 k2))
    go_ret
    exact ⟨rfl, HK3.out⟩
  subst h2
  rw [if_neg (by simp [f0])] at hR
  have HR := hid hR
  obtain ⟨n, hn⟩ : ∃ n, zs.length = n := ⟨_, rfl⟩
  have HN := hid hn
  have hn512 : n ≤ 512 := by have h1 := (lenOK_yes f0).2.2.1; have h2 := (lenOK_yes f0).1; omega
  clear hR hq hq2 f0
  rw [hn] at k0 k5 HR ⊢
  clear hn
  go_enter Try.func22, Try.ntmps22
  go_wp2_with (first
    | (go_at_call 45; (with_reducible refine k0.mono ?_); rintro e w1 ⟨rfl, hk1⟩; have HK1 := (show Hid (Same w w1) from hk1); clear hk1 k0)
    | (go_at_call 30; (with_reducible refine (k1 _ HK1.out).mono ?_); rintro e w2 ⟨rfl, hk2⟩; have HK2 := hid (HK1.out.trans hk2); clear hk2 k1)
    | (go_at_call 46; (with_reducible refine (k2 _ HK2.out).mono ?_); rintro e w3 ⟨rfl, hk3⟩; have HK3 := hid (HK2.out.trans hk3); clear hk3 k2))
  go_loopw [11] (fun i wr => ∃ k : Nat, k ≤ n ∧ i = .int .i64 k ∧ Hid (freshF (freshOK zs (tri bs) (tri ls) txn len) (n - k) k = R) ∧ Hid (Same w wr)) (fun i _ => n - (intOf i).toNat)
  case atStart => exact ⟨0, Nat.zero_le _, rfl, HR, HK3⟩
  case round =>
    obtain ⟨k, hk, rfl, HA, HK⟩ := hrel
    by_cases hlt : k < n
    · have hlz : k < zs.length := by rw [HN.out]; exact hlt
      obtain ⟨b, off, ha, hc⟩ : ∃ b off, a = some ⟨b, off, none⟩ ∧ ∀ i, i < zs.length → w.cell? ⟨b, off + i, none⟩ = some (.int .i64 (zs.getD i 0)) := by
        rcases HV.out.2 with ⟨hnil, _⟩ | ⟨b, off, c', h, _, hc⟩
        · rw [hnil] at hlz; simp at hlz
        · cases h; exact ⟨b, off, rfl, hc⟩
      subst ha
      obtain ⟨z, hz⟩ : ∃ z, zs.getD k 0 = z := ⟨_, rfl⟩
      have d0 : wr.cell? ⟨b, off + k, none⟩ = some (.int .i64 z) := HK.out.cellOf (by rw [← hz]; exact hc k hlz) id
      have h := HA.out
      rw [freshF_at hlt] at h
      unfold freshOK at h
      rw [hz] at h
      clear hc hz HA
      have k3 := fun wx hk => k3 wx hk (k : Int)
      have k4 := fun wx hk => k4 wx hk (k : Int)
      have k5 := fun wx hk => k5 wx hk (k : Int) (by omega)
      have hki : (k : Int) < (n : Int) := by omega
      generalize holdOf (k : Int) (tri bs) = ho at k3 h
      generalize othersP (tri ls) txn (k : Int) = ot at k4 h
      generalize roomFor zs (tri bs) (k : Int) len = rf at k5 h
      by_cases g1 : z = -1
      case neg =>
        rw [if_neg (by simp [g1])] at h
        have HA2 := hid h
        clear h
        go_wp2
        go_roundw
        case rel => exact ⟨k + 1, by omega, by go_num, HA2, HK⟩
        case measure => simp [intOf]; omega
      by_cases g2 : ho = -1
      case neg =>
        rw [if_neg (by simp [g2])] at h
        have HA2 := hid h
        clear h
        subst g1
        go_wp2_with fail
        refine (k3 _ HK.out).mono ?_
        rintro e w4 ⟨rfl, hk4⟩
        have HK4 := hid (HK.out.trans hk4)
        go_wp2
        go_roundw
        case rel => exact ⟨k + 1, by omega, by go_num, HA2, HK4⟩
        case measure => simp [intOf]; omega
      by_cases g3 : ot = 0
      case neg =>
        rw [if_neg (by simp [g3])] at h
        have HA2 := hid h
        clear h
        subst g1 g2
        go_wp2_with fail
        refine (k3 _ HK.out).mono ?_
        rintro e w4 ⟨rfl, hk4⟩
        have HK4 := hid (HK.out.trans hk4)
        go_wp2_with fail
        refine (k4 _ HK4.out).mono ?_
        rintro e w5 ⟨rfl, hk5⟩
        have HK5 := hid (HK4.out.trans hk5)
        go_wp2
        go_roundw
        case rel => exact ⟨k + 1, by omega, by go_num, HA2, HK5⟩
        case measure => simp [intOf]; omega
      subst g1 g2 g3
      cases rf with
      | false =>
        rw [if_neg (by simp)] at h
        have HA2 := hid h
        clear h
        go_wp2_with fail
        refine (k3 _ HK.out).mono ?_
        rintro e w4 ⟨rfl, hk4⟩
        have HK4 := hid (HK.out.trans hk4)
        go_wp2_with fail
        refine (k4 _ HK4.out).mono ?_
        rintro e w5 ⟨rfl, hk5⟩
        have HK5 := hid (HK4.out.trans hk5)
        go_wp2_with fail
        refine (k5 _ HK5.out).mono ?_
        rintro e w6 ⟨rfl, hk6⟩
        have HK6 := hid (HK5.out.trans hk6)
        go_wp2
        go_roundw
        case rel => exact ⟨k + 1, by omega, by go_num, HA2, HK6⟩
        case measure => simp [intOf]; omega
      | true =>
        rw [if_pos (by simp)] at h
        have HA2 := hid h
        clear h
        go_wp2_with fail
        refine (k3 _ HK.out).mono ?_
        rintro e w4 ⟨rfl, hk4⟩
        have HK4 := hid (HK.out.trans hk4)
        go_wp2_with fail
        refine (k4 _ HK4.out).mono ?_
        rintro e w5 ⟨rfl, hk5⟩
        have HK5 := hid (HK4.out.trans hk5)
        go_wp2_with fail
        refine (k5 _ HK5.out).mono ?_
        rintro e w6 ⟨rfl, hk6⟩
        have HK6 := hid (HK5.out.trans hk6)
        go_wp2
        go_ret
        exact ⟨by rw [← HA2.out]; rfl, HK6.out⟩
    · obtain rfl : k = n := by omega
      have h := HA.out
      rw [Nat.sub_self] at h
      go_wp2
      go_ret
      exact ⟨by rw [← h]; rfl, HK.out⟩
theorem freshF_out (f : Nat → Bool) (h : ∀ k, f k = false) : ∀ m k, freshF f m k = -1
  | 0, _ => rfl
  | m + 1, k => by
    unfold freshF
    rw [if_neg (by rw [h k]; exact Bool.false_ne_true)]
    exact freshF_out f h m (k + 1)
theorem implFreshId_any (v : Value) (zs : List Int) (x y : FR) (txn len : Int) (w : World) (hv : Rd .i64 w v zs) (hx : RdF 3 w x) (hy : RdF 3 w y) :
    Calls Try.prog 24 #[v, x.v, y.v, .int .i64 txn, .int .i64 len] w fun e w' => e = .returned (.int .i64 (freshI zs (tri x.bs) (tri y.bs) txn len)) ∧ Same w w' := by
  have k0 := roomKnown_any v zs x w hv hx
  have k1 := fun wx (hs : Same w wx) => implLocksFault_any y wx (hy.same hs)
  have k2 := recLen_any len
  have k3 := fun wx (hs : Same w wx) h1 h2 => openNeeds_any v zs x wx (hv.same hs) (hx.same hs) h1 h2
  have k4 := fun wx (hs : Same w wx) h => openLocks_any y wx (hy.same hs) h
  have k5 := fun wx (hs : Same w wx) id h1 h2 => findHold_any x id wx (hx.same hs) h1 h2
  obtain ⟨a, c, rfl⟩ := hv.form
  have hmax : zs.length ≤ maxLen := hv.1
  unfold maxLen at hmax
  obtain ⟨xe, xa, n, xc, bs⟩ := x
  obtain ⟨ye, ya, m, yc, cs⟩ := y
  have hnb := tri_length n bs hx.2.1
  dsimp only [FR.v] at k0 k1 k3 k4 k5 ⊢
  have HV := hid hv
  clear hv hx hy
  obtain ⟨R, hR⟩ : ∃ R, freshI zs (tri bs) (tri cs) txn len = R := ⟨_, rfl⟩
  rw [hR]
  unfold freshI at hR
  cases f1 : (lenOK zs && decide (holdsF (tri bs) = 0)) with
  | false =>
    rw [f1] at k0
    rw [if_pos (by
      by_cases h1 : lenOK zs = true
      · rw [h1] at f1
        exact .inr (.inl (by simpa using f1))
      · exact .inl (by simpa using h1))] at hR
    subst hR
    clear k1 k2 k3 k4 k5 f1
    go_enter Try.func24, Try.ntmps24
    go_wp2_with fail
    refine k0.mono ?_
    rintro e w1 ⟨rfl, hk1⟩
    go_wp2
    go_ret
    exact ⟨rfl, hk1⟩
  | true =>
  rw [f1] at k0
  obtain ⟨hz, hh⟩ := (show lenOK zs = true ∧ holdsF (tri bs) = 0 from by simpa using f1)
  obtain ⟨q, hq⟩ : ∃ q, locksF (tri cs) = q := ⟨_, rfl⟩
  rw [hq] at k1 hR
  by_cases h0 : q = 0
  case neg =>
    rw [if_pos (.inr (.inr h0))] at hR
    subst hR
    clear k2 k3 k4 k5 f1 hz hh hq
    go_enter Try.func24, Try.ntmps24
    go_wp2_with fail
    refine k0.mono ?_
    rintro e w1 ⟨rfl, hk1⟩
    go_wp2_with fail
    refine (k1 _ hk1).mono ?_
    rintro e w2 ⟨rfl, hk2⟩
    go_wp2
    go_ret
    exact ⟨rfl, hk1.trans hk2⟩
  subst h0
  rw [if_neg (by rw [hz, hh]; simp)] at hR
  cases f2 : inB len 0 1000 with
  | false =>
    rw [f2] at k2
    rw [freshF_out _ (fun k => by unfold freshOK roomFor; rw [if_pos (.inr (.inr f2))]; simp)] at hR
    subst hR
    clear k3 k4 k5 f1 hz hh hq
    go_enter Try.func24, Try.ntmps24
    go_wp2_with fail
    refine k0.mono ?_
    rintro e w1 ⟨rfl, hk1⟩
    go_wp2_with fail
    refine (k1 _ hk1).mono ?_
    rintro e w2 ⟨rfl, hk2⟩
    go_wp2_with fail
    refine (k2 _).mono ?_
    rintro e w3 ⟨rfl, rfl⟩
    go_wp2
    go_ret
    exact ⟨rfl, hk1.trans hk2⟩
  | true =>
  rw [f2] at k2
  have hlen : 0 ≤ len ∧ len ≤ 1000 := by simpa [inB] using f2
  have hll := lenOK_yes hz
  obtain ⟨L, hL⟩ : ∃ L, zs.length = L := ⟨_, rfl⟩
  have hL16 : L ≤ 512 := by have := hll.2.2.1; rw [hL] at this; omega
  have hhn := holdsF_len hh
  rw [hnb] at hhn
  have hris := holdsF_ris hh
  have hbad := holdsF_any hh
  have hgood := (goodL_iff _).1 hq
  have HRL := hid hgood.rise
  have HGL := (show Hid (∀ l ∈ tri cs, 1 ≤ l.2.2) from fun l hl => (hgood.fine l hl).2.2.1)
  have k6 := fun wx b0 B ck tt id (h : Tab wx b0 B tt ck) (hp : (cont tt).Perm (tri cs)) => others8_any wx b0 B ck tt (tri cs) txn id h hp HGL.out
  have k7 := fun wx g i hN hi => fits_any wx g L i len zs (tri bs) hN hz hh hL.symm hi hlen
  have k8 := fun wx hs => k3 wx hs hz hh
  have k9 := fun wx hs id => k5 wx hs id (by omega) hris
  have HFR : Hid (∀ (i kk : Nat), i < L → LbH (i : Int) (tri bs) kk → freshOK zs (tri bs) (tri cs) txn len i = (decide (zs.getD i 0 = -1) && (!fndH (i : Int) (tri bs) kk && (decide (othersFrom txn (i : Int) 0 (tri cs) = 0) && fitB zs (tri bs) i len)))) := fun i kk hi hl => by
    unfold freshOK othersP
    rw [holdOf_found hris hl hbad, if_pos hq, fitB_roomFor hz hh (by omega) hlen]
  rw [hL] at hmax k0 k8 hR ⊢
  have HV2 := (show Hid (Rd .i64 w (.slice a L c) zs) from by rw [← hL]; exact HV.out)
  have HL := hid hL
  have HR := hid hR
  clear k3 k5 f1 hz hh hq hris hbad hgood hL hR f2 HV hll hnb
  go_enter Try.func24, Try.ntmps24
  go_wp2_with fail
  refine k0.mono ?_
  rintro e w1 ⟨rfl, hk1⟩
  have HK1 := hid hk1
  clear hk1 k0
  go_wp2_with fail
  refine (k1 _ HK1.out).mono ?_
  rintro e w2 ⟨rfl, hk2⟩
  have HK2 := hid (HK1.out.trans hk2)
  clear hk2 k1
  go_wp2_with fail
  refine (k2 _).mono ?_
  rintro e w2b ⟨rfl, rfl⟩
  clear k2
  go_wp2_with fail
  refine (k8 _ HK2.out).mono ?_
  rintro e w3 ⟨ns, rfl, ho, hn, hk3⟩
  have HK3 := hid (HK2.out.trans hk3)
  obtain ⟨g, hg⟩ : ∃ g, w2b.heap.size = g := ⟨_, rfl⟩
  rw [hg] at ho
  simp only [hg]
  have HN3 : Hid (Needs w3 g L zs (tri bs)) := ⟨ns, ho, hn⟩
  clear ho hn hk3 k8 hg
  go_wp2_with fail
  refine (k4 _ HK3.out HRL.out).mono ?_
  rintro e w4 ⟨rfl, tt, ⟨ck, htab⟩, hperm, hk4, _⟩
  have HK4 := hid (HK3.out.trans hk4)
  have HN4 := hid (HN3.out.same hk4)
  obtain ⟨B, hB⟩ : ∃ B, w3.heap.size = B := ⟨_, rfl⟩
  rw [hB] at htab
  simp only [hB]
  have HT := hid htab
  have HP := hid hperm
  clear htab hperm hk4 k4 hB HN3
  go_wp2_with fail
  go_loopw [37] (fun i wr => ∃ k : Nat, k ≤ L ∧ i = .int .i64 k ∧ Hid (freshF (freshOK zs (tri bs) (tri cs) txn len) (L - k) k = R) ∧ Hid (Same w4 wr)) (fun i _ => L - (intOf i).toNat)
  case atStart => exact ⟨0, Nat.zero_le _, rfl, HR, Kept.refl _ _⟩
  case round =>
    obtain ⟨k, hk, rfl, HA, HKr⟩ := hrel
    by_cases hlt : k < L
    · have hlz : k < zs.length := by rw [HL.out]; exact hlt
      have HKw := hid (HK4.out.trans HKr.out)
      obtain ⟨b, off, rfl, hc⟩ := (HV2.out.same HKw.out).at hlz
      obtain ⟨z, hzk⟩ : ∃ z, zs.getD k 0 = z := ⟨_, rfl⟩
      rw [hzk] at hc
      have HZ := hid hzk
      have HA2 : Hid ((if freshOK zs (tri bs) (tri cs) txn len k = true then (k : Int) else freshF (freshOK zs (tri bs) (tri cs) txn len) (L - (k + 1)) (k + 1)) = R) := by
        have h := HA.out
        rw [freshF_at hlt] at h
        exact h
      have hkL : (k : Int) < (L : Int) := by omega
      clear hzk HA
      go_wp2_with fail
      refine (k9 wr HKw.out (k : Int)).mono ?_
      rintro e w5 ⟨kk, rfl, hlb, hk5⟩
      have HF := hid (HFR.out k kk hlt hlb)
      have HK5 := hid (HKr.out.trans hk5)
      have hc5 := hk5.cellOf hc (fun h => h)
      rw [HZ.out] at HF
      generalize freshOK zs (tri bs) (tri cs) txn len k = fo at HF HA2
      generalize fndH (k : Int) (tri bs) kk = fd at HF ⊢
      have ko := k6 w5 _ _ _ _ (k : Int) (HT.out.same HK5.out) HP.out
      have kn := fun wx (hs : Same w5 wx) => k7 wx g k (HN4.out.same (HK5.out.trans hs)) hlt
      generalize othersFrom txn (k : Int) 0 (tri cs) = ot at HF ko
      generalize fitB zs (tri bs) k len = ft at HF kn
      clear hlb hk5 hc
      by_cases h1 : z = -1
      case neg =>
        have h1' : (z == -1) = false := by simp [h1]
        have HA3 : Hid (freshF (freshOK zs (tri bs) (tri cs) txn len) (L - (k + 1)) (k + 1) = R) := by
          have h := HA2.out
          rw [HF.out] at h
          rw [if_neg (by simp [h1])] at h
          exact h
        clear HF HA2 ko kn
        go_wp2
        go_roundw
        case rel => exact ⟨k + 1, by omega, by go_num, HA3, HK5⟩
        case measure => simp [intOf]; omega
      subst h1
      cases fd with
      | true =>
        have HA3 : Hid (freshF (freshOK zs (tri bs) (tri cs) txn len) (L - (k + 1)) (k + 1) = R) := by
          have h := HA2.out
          rw [HF.out] at h
          rw [if_neg (by simp)] at h
          exact h
        clear HF HA2 ko kn
        go_wp2
        go_roundw
        case rel => exact ⟨k + 1, by omega, by go_num, HA3, HK5⟩
        case measure => simp [intOf]; omega
      | false =>
      by_cases h2 : ot = 0
      case neg =>
        have h2' : (ot == 0) = false := by simp [h2]
        have HA3 : Hid (freshF (freshOK zs (tri bs) (tri cs) txn len) (L - (k + 1)) (k + 1) = R) := by
          have h := HA2.out
          rw [HF.out] at h
          rw [if_neg (by simp [h2])] at h
          exact h
        clear HF HA2 kn
        go_wp2_with fail
        refine ko.mono ?_
        rintro e w6 ⟨rfl, hk6⟩
        have HK6 := hid (HK5.out.trans hk6)
        clear ko hk6 hc5
        go_wp2
        go_roundw
        case rel => exact ⟨k + 1, by omega, by go_num, HA3, HK6⟩
        case measure => simp [intOf]; omega
      subst h2
      cases ft with
      | false =>
        have HA3 : Hid (freshF (freshOK zs (tri bs) (tri cs) txn len) (L - (k + 1)) (k + 1) = R) := by
          have h := HA2.out
          rw [HF.out] at h
          rw [if_neg (by simp)] at h
          exact h
        clear HF HA2
        go_wp2_with fail
        refine ko.mono ?_
        rintro e w6 ⟨rfl, hk6⟩
        have HK56 := hid hk6
        clear ko hk6 hc5
        go_wp2_with fail
        refine (kn _ HK56.out).mono ?_
        rintro e w7 ⟨rfl, hk7⟩
        have HK7 := hid ((HK5.out.trans HK56.out).trans hk7)
        clear kn hk7
        go_wp2
        go_roundw
        case rel => exact ⟨k + 1, by omega, by go_num, HA3, HK7⟩
        case measure => simp [intOf]; omega
      | true =>
        have HA3 : Hid ((k : Int) = R) := by
          have h := HA2.out
          rw [HF.out] at h
          rw [if_pos (by simp)] at h
          exact h
        clear HF HA2
        go_wp2_with fail
        refine ko.mono ?_
        rintro e w6 ⟨rfl, hk6⟩
        have HK56 := hid hk6
        clear ko hk6 hc5
        go_wp2_with fail
        refine (kn _ HK56.out).mono ?_
        rintro e w7 ⟨rfl, hk7⟩
        have HK7 := hid (HK4.out.trans ((HK5.out.trans HK56.out).trans hk7))
        clear kn hk7
        go_wp2
        go_ret
        exact ⟨by rw [← HA3.out]; rfl, HK7.out⟩
    · obtain rfl : k = L := by omega
      have h := HA.out
      rw [Nat.sub_self] at h
      go_wp2
      go_ret
      exact ⟨by rw [← h]; rfl, HK4.out.trans HKr.out⟩
end Go.Proofs.Ytmpfpgelaipmnab

namespace Go.Proofs.Ytmpfpgelaipmnab
set_option maxRecDepth 100000
set_option maxHeartbeats 16000000
open Go.RowKit
set_option linter.unusedVariables false
theorem freshId_walk (v0 : Value) (bs0 : List Int) (x1 : FR) (x2 : FR) (s3 : Int) (s4 : Int) (w : World) (hv0 : Rd .i64 w v0 bs0) (hv1 : RdF 3 w x1) (hB1 : ∀ v ∈ x1.bs, IsI v) (hv2 : RdF 3 w x2) (hB2 : ∀ v ∈ x2.bs, IsI v) :
    Calls Try.prog 6 #[v0, x1.v, x2.v, .int .i64 s3, .int .i64 s4] w fun e w' => e = .returned (.bool true) ∧ Same w w' := by
  obtain ⟨a0a, c0a, rfl⟩ := hv0.form
  have hm0 := hv0.1
  unfold maxLen at hm0
  have HV0 := (show Hid (Rd .i64 w (.slice a0a bs0.length c0a) bs0) from hv0)
  clear hv0
  obtain ⟨p1e, p1a, p1n, p1c, p1b⟩ := x1
  have hm1 : p1n ≤ maxLen := hv1.1
  unfold maxLen at hm1
  have hl1 : p1b.length = p1n * 3 := hv1.2.1
  have HV1 := (show Hid (RdF 3 w ⟨p1e, p1a, p1n, p1c, p1b⟩) from hv1)
  clear hv1
  have HB1 := (show Hid (∀ v ∈ p1b, IsI v) from hB1)
  clear hB1
  dsimp only [FR.v]
  obtain ⟨p2e, p2a, p2n, p2c, p2b⟩ := x2
  have hm2 : p2n ≤ maxLen := hv2.1
  unfold maxLen at hm2
  have hl2 : p2b.length = p2n * 3 := hv2.2.1
  have HV2 := (show Hid (RdF 3 w ⟨p2e, p2a, p2n, p2c, p2b⟩) from hv2)
  clear hv2
  have HB2 := (show Hid (∀ v ∈ p2b, IsI v) from hB2)
  clear hB2
  dsimp only [FR.v]
  go_enter Try.func6, Try.ntmps6
  have HKw : Hid (Same w w) := Kept.refl _ _
  by_cases hb0 : (1048576 : Int) < (bs0.length : Int)
  · go_wp2
    go_ret
    exact ⟨rfl, by first | exact Kept.refl _ _ | exact (Kept.refl _ _).alloc _ | exact ((Kept.refl _ _).alloc _).alloc _⟩
  go_wp2_with fail
  refine (szHoldS_any _ p1n _ 1048576 _ (by omega) (by omega) (by unfold maxLen; omega)).mono ?_
  rintro e w1 ⟨sz1, rfl, hr, hww⟩
  have hk : Same w w1 := by rw [hww]; exact Kept.refl _ _
  clear hww
  have hkk : Same w w1 := hk
  have hzw1 := hkk.size
  have HKw1 := (show Hid (Same w w1) from HKw.out.trans hkk)
  clear hkk hk
  rcases hr with ⟨rfl, _⟩ | ⟨hr, hr1⟩
  · go_wp2
    go_ret
    exact ⟨rfl, HKw1.out⟩
  have hp1 : p1n ≤ 1048576 := by omega
  have hsb1 : sz1 ≤ 1048576 := by omega
  clear hr
  go_wp2_with fail
  refine (szLockS_any _ p2n _ sz1 _ (by omega) (by omega) (by unfold maxLen; omega)).mono ?_
  rintro e w2 ⟨sz2, rfl, hr, hww⟩
  have hk : Same w1 w2 := by rw [hww]; exact Kept.refl _ _
  clear hww
  have hkk : Same w1 w2 := hk
  have hzw2 := hkk.size
  have HKw2 := (show Hid (Same w w2) from HKw1.out.trans hkk)
  clear hkk hk
  rcases hr with ⟨rfl, _⟩ | ⟨hr, hr2⟩
  · go_wp2
    go_ret
    exact ⟨rfl, HKw2.out⟩
  have hp2 : p2n ≤ 1048576 := by omega
  have hsb2 : sz2 ≤ 1048576 := by omega
  clear hr
  go_wp2_with fail
  refine (toInt64S_any _ bs0 _ (by omega) (HV0.out.same HKw2.out)).mono ?_
  rintro e w3 ⟨gC0, rfl, hf, ho, hk⟩
  have hf : ∀ b, (Value.slice (some ⟨gC0, 0, none⟩) bs0.length bs0.length).ownBlock = some b → _ ≤ b := fun b hb => by rw [← (Option.some.inj hb : gC0 = b)]; exact hf
  have HFC0 := (show Hid (∀ b, (Value.slice (some ⟨gC0, 0, none⟩) bs0.length bs0.length).ownBlock = some b → w2.heap.size ≤ b ∧ b < w3.heap.size) from fun b hb => ⟨hf b hb, (ho.lt b hb).2⟩)
  have HC0w3 := (show Hid (Own 0 2 .i64 w3 (.slice (some ⟨gC0, 0, none⟩) bs0.length bs0.length) bs0) from ho)
  clear hf ho
  have hkk : Same w2 w3 := hk
  have hzw3 := hkk.size
  have HKw3 := (show Hid (Same w w3) from HKw2.out.trans hkk)
  clear hkk hk
  go_wp2_with fail
  refine (toHoldS_any ⟨p1e, p1a, p1n, p1c, p1b⟩ _ (by dsimp only; omega) (HV1.out.same HKw3.out)).mono ?_
  rintro e w4 ⟨⟨C1e, C1a, C1n, C1c, C1b⟩, rfl, hd, hn, hf, ho, hk⟩
  dsimp only at hd hn
  replace hd := hd.symm
  replace hn := hn.symm
  subst hd hn
  dsimp only [FR.v]
  have HFC1 := (show Hid (∀ b, FootL (FR.rows 3 ⟨C1e, C1a, p1n, C1c, p1b⟩) b → w3.heap.size ≤ b ∧ b < w4.heap.size) from fun b hb => ⟨hf b hb, ho.lt b hb⟩)
  have HC1w4 := (show Hid (OwnL w4 (FR.rows 3 ⟨C1e, C1a, p1n, C1c, p1b⟩)) from ho)
  clear hf ho
  have hkk : Same w3 w4 := hk
  have hzw4 := hkk.size
  have HC0w4 := hid (HC0w3.out.same hkk)
  have HKw4 := (show Hid (Same w w4) from HKw3.out.trans hkk)
  clear hkk hk
  go_wp2_with fail
  refine (toLockS_any ⟨p2e, p2a, p2n, p2c, p2b⟩ _ (by dsimp only; omega) (HV2.out.same HKw4.out)).mono ?_
  rintro e w5 ⟨⟨C2e, C2a, C2n, C2c, C2b⟩, rfl, hd, hn, hf, ho, hk⟩
  dsimp only at hd hn
  replace hd := hd.symm
  replace hn := hn.symm
  subst hd hn
  dsimp only [FR.v]
  have HFC2 := (show Hid (∀ b, FootL (FR.rows 3 ⟨C2e, C2a, p2n, C2c, p2b⟩) b → w4.heap.size ≤ b ∧ b < w5.heap.size) from fun b hb => ⟨hf b hb, ho.lt b hb⟩)
  have HC2w5 := (show Hid (OwnL w5 (FR.rows 3 ⟨C2e, C2a, p2n, C2c, p2b⟩)) from ho)
  clear hf ho
  have hkk : Same w4 w5 := hk
  have hzw5 := hkk.size
  have HC0w5 := hid (HC0w4.out.same hkk)
  have HC1w5 := (show Hid (OwnL w5 (FR.rows 3 ⟨C1e, C1a, p1n, C1c, p1b⟩)) from HC1w4.out.same hkk)
  have HKw5 := (show Hid (Same w w5) from HKw4.out.trans hkk)
  clear hkk hk
  go_wp2_with fail
  refine (specFreshId_any _ bs0 ⟨C1e, C1a, p1n, C1c, p1b⟩ ⟨C2e, C2a, p2n, C2c, p2b⟩ s3 s4 _ (HC0w5.out.rd) (FR.own_rd HC1w5.out) (FR.own_rd HC2w5.out)).mono ?_
  rintro e w6 ⟨rfl, hk⟩
  try dsimp only
  obtain ⟨r0, hR⟩ : ∃ r, freshI bs0 (tri p1b) (tri p2b) s3 s4 = r := ⟨_, rfl⟩
  have HR : Hid (freshI bs0 (tri p1b) (tri p2b) s3 s4 = r0) := hR
  clear hR
  rw [HR.out]
  have hkk : Same w5 w6 := hk
  have hzw6 := hkk.size
  have HC0w6 := hid (HC0w5.out.same hkk)
  have HC1w6 := (show Hid (OwnL w6 (FR.rows 3 ⟨C1e, C1a, p1n, C1c, p1b⟩)) from HC1w5.out.same hkk)
  have HC2w6 := (show Hid (OwnL w6 (FR.rows 3 ⟨C2e, C2a, p2n, C2c, p2b⟩)) from HC2w5.out.same hkk)
  have HKw6 := (show Hid (Same w w6) from HKw5.out.trans hkk)
  clear hkk hk
  go_wp2_with fail
  refine (toInt64S_any _ bs0 _ (by omega) (HV0.out.same HKw6.out)).mono ?_
  rintro e w7 ⟨gX0, rfl, hf, ho, hk⟩
  have hf : ∀ b, (Value.slice (some ⟨gX0, 0, none⟩) bs0.length bs0.length).ownBlock = some b → _ ≤ b := fun b hb => by rw [← (Option.some.inj hb : gX0 = b)]; exact hf
  have HFX0 := (show Hid (∀ b, (Value.slice (some ⟨gX0, 0, none⟩) bs0.length bs0.length).ownBlock = some b → w6.heap.size ≤ b ∧ b < w7.heap.size) from fun b hb => ⟨hf b hb, (ho.lt b hb).2⟩)
  have HX0w7 := (show Hid (Own 0 2 .i64 w7 (.slice (some ⟨gX0, 0, none⟩) bs0.length bs0.length) bs0) from ho)
  clear hf ho
  have hkk : Same w6 w7 := hk
  have hzw7 := hkk.size
  have HKw7 := (show Hid (Same w w7) from HKw6.out.trans hkk)
  clear hkk hk
  go_wp2_with fail
  refine (toHoldS_any ⟨p1e, p1a, p1n, p1c, p1b⟩ _ (by dsimp only; omega) (HV1.out.same HKw7.out)).mono ?_
  rintro e w8 ⟨⟨X1e, X1a, X1n, X1c, X1b⟩, rfl, hd, hn, hf, ho, hk⟩
  dsimp only at hd hn
  replace hd := hd.symm
  replace hn := hn.symm
  subst hd hn
  dsimp only [FR.v]
  have HFX1 := (show Hid (∀ b, FootL (FR.rows 3 ⟨X1e, X1a, p1n, X1c, p1b⟩) b → w7.heap.size ≤ b ∧ b < w8.heap.size) from fun b hb => ⟨hf b hb, ho.lt b hb⟩)
  have HX1w8 := (show Hid (OwnL w8 (FR.rows 3 ⟨X1e, X1a, p1n, X1c, p1b⟩)) from ho)
  clear hf ho
  have hkk : Same w7 w8 := hk
  have hzw8 := hkk.size
  have HX0w8 := hid (HX0w7.out.same hkk)
  have HKw8 := (show Hid (Same w w8) from HKw7.out.trans hkk)
  clear hkk hk
  go_wp2_with fail
  refine (toLockS_any ⟨p2e, p2a, p2n, p2c, p2b⟩ _ (by dsimp only; omega) (HV2.out.same HKw8.out)).mono ?_
  rintro e w9 ⟨⟨X2e, X2a, X2n, X2c, X2b⟩, rfl, hd, hn, hf, ho, hk⟩
  dsimp only at hd hn
  replace hd := hd.symm
  replace hn := hn.symm
  subst hd hn
  dsimp only [FR.v]
  have HFX2 := (show Hid (∀ b, FootL (FR.rows 3 ⟨X2e, X2a, p2n, X2c, p2b⟩) b → w8.heap.size ≤ b ∧ b < w9.heap.size) from fun b hb => ⟨hf b hb, ho.lt b hb⟩)
  have HX2w9 := (show Hid (OwnL w9 (FR.rows 3 ⟨X2e, X2a, p2n, X2c, p2b⟩)) from ho)
  clear hf ho
  have hkk : Same w8 w9 := hk
  have hzw9 := hkk.size
  have HX0w9 := hid (HX0w8.out.same hkk)
  have HX1w9 := (show Hid (OwnL w9 (FR.rows 3 ⟨X1e, X1a, p1n, X1c, p1b⟩)) from HX1w8.out.same hkk)
  have HKw9 := (show Hid (Same w w9) from HKw8.out.trans hkk)
  clear hkk hk
  go_wp2_with fail
  refine (implFreshId_any _ bs0 ⟨X1e, X1a, p1n, X1c, p1b⟩ ⟨X2e, X2a, p2n, X2c, p2b⟩ s3 s4 _ (HX0w9.out.rd) (FR.own_rd HX1w9.out) (FR.own_rd HX2w9.out)).mono ?_
  rintro e w10 ⟨rfl, hk⟩
  try dsimp only
  rw [HR.out]
  have hkk : Same w9 w10 := hk
  have hzw10 := hkk.size
  have HX0w10 := hid (HX0w9.out.same hkk)
  have HX1w10 := (show Hid (OwnL w10 (FR.rows 3 ⟨X1e, X1a, p1n, X1c, p1b⟩)) from HX1w9.out.same hkk)
  have HX2w10 := (show Hid (OwnL w10 (FR.rows 3 ⟨X2e, X2a, p2n, X2c, p2b⟩)) from HX2w9.out.same hkk)
  have HKw10 := (show Hid (Same w w10) from HKw9.out.trans hkk)
  clear hkk hk
  go_wp2_with fail
  refine (toInt64S_any _ bs0 _ (by omega) (HV0.out.same HKw10.out)).mono ?_
  rintro e w11 ⟨gD0, rfl, hf, ho, hk⟩
  have hf : ∀ b, (Value.slice (some ⟨gD0, 0, none⟩) bs0.length bs0.length).ownBlock = some b → _ ≤ b := fun b hb => by rw [← (Option.some.inj hb : gD0 = b)]; exact hf
  have HFD0 := (show Hid (∀ b, (Value.slice (some ⟨gD0, 0, none⟩) bs0.length bs0.length).ownBlock = some b → w10.heap.size ≤ b ∧ b < w11.heap.size) from fun b hb => ⟨hf b hb, (ho.lt b hb).2⟩)
  have HD0w11 := (show Hid (Own 0 2 .i64 w11 (.slice (some ⟨gD0, 0, none⟩) bs0.length bs0.length) bs0) from ho)
  clear hf ho
  have hkk : Same w10 w11 := hk
  have hzw11 := hkk.size
  have HX0w11 := hid (HX0w10.out.same hkk)
  have HX1w11 := (show Hid (OwnL w11 (FR.rows 3 ⟨X1e, X1a, p1n, X1c, p1b⟩)) from HX1w10.out.same hkk)
  have HX2w11 := (show Hid (OwnL w11 (FR.rows 3 ⟨X2e, X2a, p2n, X2c, p2b⟩)) from HX2w10.out.same hkk)
  have HKw11 := (show Hid (Same w w11) from HKw10.out.trans hkk)
  clear hkk hk
  go_wp2_with fail
  refine (eqInt64S_own 0 _ _ bs0 _ (by omega) HX0w11.out HD0w11.out).mono ?_
  rintro e w12 ⟨rfl, nn, hww⟩
  have hk : Same w11 w12 := by rw [hww]; exact (Kept.refl _ _).drewN _
  clear hww
  have hkk : Same w11 w12 := hk
  have hzw12 := hkk.size
  have HX0w12 := hid (HX0w11.out.same hkk)
  have HX1w12 := (show Hid (OwnL w12 (FR.rows 3 ⟨X1e, X1a, p1n, X1c, p1b⟩)) from HX1w11.out.same hkk)
  have HX2w12 := (show Hid (OwnL w12 (FR.rows 3 ⟨X2e, X2a, p2n, X2c, p2b⟩)) from HX2w11.out.same hkk)
  have HKw12 := (show Hid (Same w w12) from HKw11.out.trans hkk)
  clear hkk hk
  go_wp2_with fail
  refine (toHoldS_any ⟨p1e, p1a, p1n, p1c, p1b⟩ _ (by dsimp only; omega) (HV1.out.same HKw12.out)).mono ?_
  rintro e w13 ⟨⟨D1e, D1a, D1n, D1c, D1b⟩, rfl, hd, hn, hf, ho, hk⟩
  dsimp only at hd hn
  replace hd := hd.symm
  replace hn := hn.symm
  subst hd hn
  dsimp only [FR.v]
  have HFD1 := (show Hid (∀ b, FootL (FR.rows 3 ⟨D1e, D1a, p1n, D1c, p1b⟩) b → w12.heap.size ≤ b ∧ b < w13.heap.size) from fun b hb => ⟨hf b hb, ho.lt b hb⟩)
  have HD1w13 := (show Hid (OwnL w13 (FR.rows 3 ⟨D1e, D1a, p1n, D1c, p1b⟩)) from ho)
  clear hf ho
  have hkk : Same w12 w13 := hk
  have hzw13 := hkk.size
  have HX0w13 := hid (HX0w12.out.same hkk)
  have HX1w13 := (show Hid (OwnL w13 (FR.rows 3 ⟨X1e, X1a, p1n, X1c, p1b⟩)) from HX1w12.out.same hkk)
  have HX2w13 := (show Hid (OwnL w13 (FR.rows 3 ⟨X2e, X2a, p2n, X2c, p2b⟩)) from HX2w12.out.same hkk)
  have HKw13 := (show Hid (Same w w13) from HKw12.out.trans hkk)
  clear hkk hk
  go_wp2_with fail
  refine (eqHoldS_own ⟨X1e, X1a, p1n, X1c, p1b⟩ ⟨D1e, D1a, p1n, D1c, p1b⟩ _ (by dsimp only; omega) rfl HX1w13.out HD1w13.out).mono ?_
  rintro e w14 ⟨rfl, hk⟩
  have hkk : Same w13 w14 := hk
  have hzw14 := hkk.size
  have HX0w14 := hid (HX0w13.out.same hkk)
  have HX1w14 := (show Hid (OwnL w14 (FR.rows 3 ⟨X1e, X1a, p1n, X1c, p1b⟩)) from HX1w13.out.same hkk)
  have HX2w14 := (show Hid (OwnL w14 (FR.rows 3 ⟨X2e, X2a, p2n, X2c, p2b⟩)) from HX2w13.out.same hkk)
  have HKw14 := (show Hid (Same w w14) from HKw13.out.trans hkk)
  clear hkk hk
  go_wp2_with fail
  refine (toLockS_any ⟨p2e, p2a, p2n, p2c, p2b⟩ _ (by dsimp only; omega) (HV2.out.same HKw14.out)).mono ?_
  rintro e w15 ⟨⟨D2e, D2a, D2n, D2c, D2b⟩, rfl, hd, hn, hf, ho, hk⟩
  dsimp only at hd hn
  replace hd := hd.symm
  replace hn := hn.symm
  subst hd hn
  dsimp only [FR.v]
  have HFD2 := (show Hid (∀ b, FootL (FR.rows 3 ⟨D2e, D2a, p2n, D2c, p2b⟩) b → w14.heap.size ≤ b ∧ b < w15.heap.size) from fun b hb => ⟨hf b hb, ho.lt b hb⟩)
  have HD2w15 := (show Hid (OwnL w15 (FR.rows 3 ⟨D2e, D2a, p2n, D2c, p2b⟩)) from ho)
  clear hf ho
  have hkk : Same w14 w15 := hk
  have hzw15 := hkk.size
  have HX0w15 := hid (HX0w14.out.same hkk)
  have HX1w15 := (show Hid (OwnL w15 (FR.rows 3 ⟨X1e, X1a, p1n, X1c, p1b⟩)) from HX1w14.out.same hkk)
  have HX2w15 := (show Hid (OwnL w15 (FR.rows 3 ⟨X2e, X2a, p2n, X2c, p2b⟩)) from HX2w14.out.same hkk)
  have HKw15 := (show Hid (Same w w15) from HKw14.out.trans hkk)
  clear hkk hk
  go_wp2_with fail
  refine (eqLockS_own ⟨X2e, X2a, p2n, X2c, p2b⟩ ⟨D2e, D2a, p2n, D2c, p2b⟩ _ (by dsimp only; omega) rfl HX2w15.out HD2w15.out).mono ?_
  rintro e w16 ⟨rfl, hk⟩
  have hkk : Same w15 w16 := hk
  have hzw16 := hkk.size
  have HX0w16 := hid (HX0w15.out.same hkk)
  have HX1w16 := (show Hid (OwnL w16 (FR.rows 3 ⟨X1e, X1a, p1n, X1c, p1b⟩)) from HX1w15.out.same hkk)
  have HX2w16 := (show Hid (OwnL w16 (FR.rows 3 ⟨X2e, X2a, p2n, X2c, p2b⟩)) from HX2w15.out.same hkk)
  have HKw16 := (show Hid (Same w w16) from HKw15.out.trans hkk)
  clear hkk hk
  go_wp2
  go_ret
  exact ⟨rfl, HKw16.out⟩
end Go.Proofs.Ytmpfpgelaipmnab

namespace Go.Proofs.Ytmpfpgelaipmnab.fnExactFreshId
open Go.ChangeShapes Go.WideShapes Go.ChangeAt Go.RowKit
set_option linter.unusedVariables false
theorem own : ownKnob Try.prog.godebug = none := by kernel_rfl
theorem laidOut : laidOutB Try.prog = true := by kernel_rfl
set_option maxRecDepth 100000 in
theorem lifted (os : Os) (started : os.Started) (H : Type) (enc : TypeId × Value → H) :
    ReturnsInHanded {} Try.checked os 6 .any (Rows.fnExactFreshIdSpec.pre6 enc Try.prog Try.f6 Rows.fnExactFreshIdRow.domain false) (Rows.fnExactFreshIdSpec.post enc Try.prog Try.f6 false true false false) := by
  refine returnsInHanded_of_change (C := Try.checked) own started (by kernel_rfl) Try.func6
    (ChangeSpec.witness6 (enc := enc) (C := Try.checked) false ⟨#[], #[.slice none 0 0, .slice none 0 0, .slice none 0 0, .int .i64 0, .int .i64 0], []⟩ 8 (by kernel_rfl) (by kernel_rfl) (by kernel_rfl) (by kernel_rfl)) ?_
  intro W base args ds gs before hval0 hW hcnd _
  have hval : ∀ (j : Nat) t v, Try.f6.params[j]? = some t → args[j]? = some v → Value.okWide Try.prog W .any base t v := hval0
  have hW' := hW
  obtain ⟨p, q, hA0, hV, rfl, hfz, hnd⟩ := hW
  have hA : DataW.TrodAll enc Try.prog W 0 (fun _ => true) true Try.f6.params.toList args.toList ds p := hA0
  rw [Try.params6] at hA hval
  obtain ⟨v0, vs0, d0, ds0, p0, q0, hargs, rfl, rfl, h0, r0⟩ := trodAll_cons hA
  obtain ⟨v1, vs1, d1, ds1, p1, q1, rfl, rfl, rfl, h1, r1⟩ := trodAll_cons r0
  obtain ⟨v2, vs2, d2, ds2, p2, q2, rfl, rfl, rfl, h2, r2⟩ := trodAll_cons r1
  obtain ⟨v3, vs3, d3, ds3, p3, q3, rfl, rfl, rfl, h3, r3⟩ := trodAll_cons r2
  obtain ⟨v4, vs4, d4, ds4, p4, q4, rfl, rfl, rfl, h4, r4⟩ := trodAll_cons r3
  obtain ⟨rfl, rfl, rfl⟩ := trodAll_nil r4
  obtain rfl : args = #[v0, v1, v2, v3, v4] := by cases args; simp_all
  obtain ⟨rfl, rfl⟩ := trodVars_none hV
  have k0 := h0
  have lt0 : ∀ x ∈ p0, x.block < W.heap.size := by obtain ⟨m, hm⟩ := k0; exact DataW.trod_lt m _ _ _ hm
  obtain ⟨x0, rd0⟩ := open_int64s (hval 0 30 v0 rfl rfl) h0
  have k1 := h1
  have lt1 : ∀ x ∈ p1, x.block < W.heap.size := by obtain ⟨m, hm⟩ := k1; exact DataW.trod_lt m _ _ _ hm
  obtain ⟨x1, rfl, rd1, bd1⟩ := open_holdS (hval 1 22 v1 rfl rfl) h1
  have k2 := h2
  have lt2 : ∀ x ∈ p2, x.block < W.heap.size := by obtain ⟨m, hm⟩ := k2; exact DataW.trod_lt m _ _ _ hm
  obtain ⟨x2, rfl, rd2, bd2⟩ := open_lockS (hval 2 37 v2 rfl rfl) h2
  obtain ⟨a3, rfl, rfl, rfl, w3⟩ := open_int Try.underlying2 (hval 3 2 v3 rfl rfl) h3
  obtain ⟨a4, rfl, rfl, rfl, w4⟩ := open_int Try.underlying2 (hval 4 2 v4 rfl rfl) h4
  clear hA0 hval0
  refine (freshId_walk v0 x0 x1 x2 a3 a4 W rd0 rd1 bd1 rd2 bd2).mono fun e W' ⟨he, hk⟩ => ?_
  have bel : Below W.heap.size W W' := hk.below (Nat.le_refl _) (fun _ _ => id)
  subst he
  exact ⟨_, rfl, _, _, _, [], _, [], hW', trodAll_mk1 (shut_bool Try.underlying4 _), (trodAll_cons_mk (Below.trod laidOut (by kernel_rfl) (of_decide_eq_true (by kernel_rfl)) k0 bel lt0) (trodAll_cons_mk (Below.trod laidOut (by kernel_rfl) (of_decide_eq_true (by kernel_rfl)) k1 bel lt1) (trodAll_cons_mk (Below.trod laidOut (by kernel_rfl) (of_decide_eq_true (by kernel_rfl)) k2 bel lt2) (trodAll_cons_mk (shut_int Try.underlying2 w3) (trodAll_cons_mk (shut_int Try.underlying2 w4) trodAll_mk0))))), rfl, bel.frame _, fun h => by cases h⟩
theorem over : Rows.fnExactFreshIdRow.holds Try.pinned (OpenSpec.ofChange Rows.fnExactFreshIdSpec) :=
  OpenClaim.holds_of_wide 6 Try.f6 rfl rfl rfl rfl rfl rfl rfl ⟨rfl, rfl, rfl, rfl, rfl⟩ rfl rfl rfl rfl rfl (by kernel_rfl) Try.func6 (by kernel_rfl)
    (of_decide_eq_true (by kernel_rfl)) (by unfold Func.isWrapper; first | (rw [if_pos (by decide +kernel)]; kernel_rfl) | (rw [if_neg (by decide +kernel)]; exact ⟨rfl, rfl⟩))
    (fun os started H enc _ => lifted os started H enc)
end Go.Proofs.Ytmpfpgelaipmnab.fnExactFreshId
namespace Go.Proofs.Ytmpfpgelaipmnab
theorem freshId_proved : Rows.FnExactFreshIdSaid := fnExactFreshId.over
#print axioms freshId_proved
end Go.Proofs.Ytmpfpgelaipmnab
