/-
  The bytes of an upper layer in the program.
-/
import Derived.Test.YthogonpjkngpjaaRc13
namespace Go.Proofs.Ythogonpjkngpjaa
set_option maxRecDepth 100000
open Go.RowKit
theorem ta_other_tcp (v : Value) (w : World) : (Instr.typeAssert (.iface 109 v) 70 110 true).run Try.prog w = .ok (.tuple #[.agg #[.int .i64 0, .int .i64 0, .int .i64 0, .int .i64 0, .int .i64 0, .int .i64 0, .int .i64 0, .int .i64 0, .int .i64 0, .int .i64 0, .int .i64 0, .bool false, .slice none 0 0, .slice none 0 0], .bool false]) w := by kernel_rfl
theorem ta_other_udp (v : Value) (w : World) : (Instr.typeAssert (.iface 109 v) 70 111 true).run Try.prog w = .ok (.tuple #[.agg #[.int .i64 0, .int .i64 0, .int .i64 0, .int .i64 0, .int .i64 0, .int .i64 0, .int .i64 0, .int .i64 0, .int .i64 0, .int .i64 0, .int .i64 0, .bool false, .slice none 0 0, .slice none 0 0], .bool false]) w := by kernel_rfl
theorem ta_other_icmp (v : Value) (w : World) : (Instr.typeAssert (.iface 109 v) 70 112 true).run Try.prog w = .ok (.tuple #[.agg #[.int .i64 0, .int .i64 0, .int .i64 0, .int .i64 0, .int .i64 0, .int .i64 0, .int .i64 0, .int .i64 0, .int .i64 0, .int .i64 0, .int .i64 0, .bool false, .slice none 0 0, .slice none 0 0], .bool false]) w := by kernel_rfl
theorem ta_tcp_tcp (v : Value) (w : World) : (Instr.typeAssert (.iface 110 v) 70 110 true).run Try.prog w = .ok (.tuple #[v, .bool true]) w := by kernel_rfl
theorem ta_udp_tcp (v : Value) (w : World) : (Instr.typeAssert (.iface 111 v) 70 110 true).run Try.prog w = .ok (.tuple #[.agg #[.int .i64 0, .int .i64 0, .int .i64 0, .int .i64 0, .int .i64 0, .int .i64 0, .int .i64 0, .int .i64 0, .int .i64 0, .int .i64 0, .int .i64 0, .bool false, .slice none 0 0, .slice none 0 0], .bool false]) w := by kernel_rfl
theorem ta_udp_udp (v : Value) (w : World) : (Instr.typeAssert (.iface 111 v) 70 111 true).run Try.prog w = .ok (.tuple #[v, .bool true]) w := by kernel_rfl
theorem ta_icmp_tcp (v : Value) (w : World) : (Instr.typeAssert (.iface 112 v) 70 110 true).run Try.prog w = .ok (.tuple #[.agg #[.int .i64 0, .int .i64 0, .int .i64 0, .int .i64 0, .int .i64 0, .int .i64 0, .int .i64 0, .int .i64 0, .int .i64 0, .int .i64 0, .int .i64 0, .bool false, .slice none 0 0, .slice none 0 0], .bool false]) w := by kernel_rfl
theorem ta_icmp_udp (v : Value) (w : World) : (Instr.typeAssert (.iface 112 v) 70 111 true).run Try.prog w = .ok (.tuple #[.agg #[.int .i64 0, .int .i64 0, .int .i64 0, .int .i64 0, .int .i64 0, .int .i64 0, .int .i64 0, .int .i64 0, .int .i64 0, .int .i64 0, .int .i64 0, .bool false, .slice none 0 0, .slice none 0 0], .bool false]) w := by kernel_rfl
theorem ta_icmp_icmp (v : Value) (w : World) : (Instr.typeAssert (.iface 112 v) 70 112 true).run Try.prog w = .ok (.tuple #[v, .bool true]) w := by kernel_rfl
set_option maxHeartbeats 8000000 in
theorem upB0 (sport dport seq ack bits window urgent ty code rest : Int) (nosum : Bool) (A D : Option Addr) (n c m d : Nat) (os bs : List UInt8) (sum : Int) (w : World) (hr : RB w w.heap.size A os) (hl : os.length = n) (hs : RB w w.heap.size D bs) (hm : bs.length = m) (hn : n ≤ 40) (hm2 : m ≤ 1500) : Calls Try.prog 70 #[.agg #[.int .i64 0, .int .i64 sport, .int .i64 dport, .int .i64 seq, .int .i64 ack, .int .i64 bits, .int .i64 window, .int .i64 urgent, .int .i64 ty, .int .i64 code, .int .i64 rest, .bool nosum, .slice A n c, .slice D m d], .int .i64 sum] w (EncOut (bs) w) := by
  have q : Hid ((w.alloc (.cells #[.int .i64 0, .int .i64 sport, .int .i64 dport, .int .i64 seq, .int .i64 ack, .int .i64 bits, .int .i64 window, .int .i64 urgent, .int .i64 ty, .int .i64 code, .int .i64 rest, .bool nosum, .slice A n c, .slice D m d] 36)).heap[w.heap.size]? = some (.cells #[.int .i64 0, .int .i64 sport, .int .i64 dport, .int .i64 seq, .int .i64 ack, .int .i64 bits, .int .i64 window, .int .i64 urgent, .int .i64 ty, .int .i64 code, .int .i64 rest, .bool nosum, .slice A n c, .slice D m d] 36)) := Lib.hid (K.new w _)
  have HA := Lib.hid ((hr.below (Joins.below_alloc1 w (.cells #[.int .i64 0, .int .i64 sport, .int .i64 dport, .int .i64 seq, .int .i64 ack, .int .i64 bits, .int .i64 window, .int .i64 urgent, .int .i64 ty, .int .i64 code, .int .i64 rest, .bool nosum, .slice A n c, .slice D m d] 36))))
  have HD := Lib.hid ((hs.below (Joins.below_alloc1 w (.cells #[.int .i64 0, .int .i64 sport, .int .i64 dport, .int .i64 seq, .int .i64 ack, .int .i64 bits, .int .i64 window, .int .i64 urgent, .int .i64 ty, .int .i64 code, .int .i64 rest, .bool nosum, .slice A n c, .slice D m d] 36))))
  have HE : Hid (Below w.heap.size w (w.alloc (.cells #[.int .i64 0, .int .i64 sport, .int .i64 dport, .int .i64 seq, .int .i64 ack, .int .i64 bits, .int .i64 window, .int .i64 urgent, .int .i64 ty, .int .i64 code, .int .i64 rest, .bool nosum, .slice A n c, .slice D m d] 36))) := Lib.hid (Joins.below_alloc1 w _)
  have HL := Lib.hid hl
  have HM := Lib.hid hm
  have hw : (w.alloc (.cells #[.int .i64 0, .int .i64 sport, .int .i64 dport, .int .i64 seq, .int .i64 ack, .int .i64 bits, .int .i64 window, .int .i64 urgent, .int .i64 ty, .int .i64 code, .int .i64 rest, .bool nosum, .slice A n c, .slice D m d] 36)).heap.size = w.heap.size + 1 := by simp
  try simp only at q HA HD HE hw
  clear hl hm
  clear hr hs
  have hmk := run_make_z ((m : Int)) m (by omega) (by omega)
  go_enter Try.func70, Try.ntmps70
  go_wp2_with (with_reducible refine loadU rfl _ rfl w.heap.size rfl q.out ?_)
  refine Calls.mono (implUpSize (Uh.mk 0 sport dport seq ack bits window urgent ty code rest nosum) A D n c m d _ (by omega) (by omega)) ?_
  rintro e w1 ⟨rfl, b1⟩
  simp only [show Uh.size (Uh.mk 0 sport dport seq ack bits window urgent ty code rest nosum) n m = (m : Int) from rfl]
  have BA : Hid (Bd (w.alloc (.cells #[.int .i64 0, .int .i64 sport, .int .i64 dport, .int .i64 seq, .int .i64 ack, .int .i64 bits, .int .i64 window, .int .i64 urgent, .int .i64 ty, .int .i64 code, .int .i64 rest, .bool nosum, .slice A n c, .slice D m d] 36)) (w.heap.size + 1) (w1.alloc (.cells (madeCells #[.int .u8 0] m) 5)) (some ⟨w1.heap.size, 0, none⟩) 0 m []) := Lib.hid ⟨by have h := World.ownsRow_made (base := w.heap.size + 1) (e := 5) (size := 1) w1 (madeCells #[.int .u8 0] m) m (by have := b1.size; simp at this; omega) (by unfold maxLen; omega) (by rw [size_madeCells]; simp); simpa [cellsOf] using h, ((b1.mono (by simp)).alloc (by have := b1.size; simp at this; omega) _), by have := b1.size; simp at this; simp; omega, rfl⟩
  have Q1 := Lib.hid (BA.out.row q.out (by omega))
  clear b1
  go_wp2_with (with_reducible refine loadU rfl _ rfl w.heap.size rfl Q1.out ?_)
  refine Calls.mono (formatOfC (Uh.mk 0 sport dport seq ack bits window urgent ty code rest nosum) A D n c m d _) ?_
  rintro e w2 ⟨rfl, rfl⟩
  simp only [show ∀ v, fmtV 0 v = .iface 109 v from fun _ => rfl]
  have BB := Lib.hid (BA.out.call (Joins.below_alloc1 _ (.cells #[.int .i64 0, .int .i64 sport, .int .i64 dport, .int .i64 seq, .int .i64 ack, .int .i64 bits, .int .i64 window, .int .i64 urgent, .int .i64 ty, .int .i64 code, .int .i64 rest, .bool nosum, .slice A n c, .slice D m d] 36)))
  clear Q1 BA hmk
  try simp only at BB
  generalize (w1.alloc (.cells (madeCells #[.int .u8 0] m) 5)).alloc (.cells #[.int .i64 0, .int .i64 sport, .int .i64 dport, .int .i64 seq, .int .i64 ack, .int .i64 bits, .int .i64 window, .int .i64 urgent, .int .i64 ty, .int .i64 code, .int .i64 rest, .bool nosum, .slice A n c, .slice D m d] 36) = w3 at BB ⊢
  have ta0 := ta_other_tcp (.agg #[.int .i64 0, .int .i64 sport, .int .i64 dport, .int .i64 seq, .int .i64 ack, .int .i64 bits, .int .i64 window, .int .i64 urgent, .int .i64 ty, .int .i64 code, .int .i64 rest, .bool nosum, .slice A n c, .slice D m d])
  have ta1 := ta_other_udp (.agg #[.int .i64 0, .int .i64 sport, .int .i64 dport, .int .i64 seq, .int .i64 ack, .int .i64 bits, .int .i64 window, .int .i64 urgent, .int .i64 ty, .int .i64 code, .int .i64 rest, .bool nosum, .slice A n c, .slice D m d])
  have ta2 := ta_other_icmp (.agg #[.int .i64 0, .int .i64 sport, .int .i64 dport, .int .i64 seq, .int .i64 ack, .int .i64 bits, .int .i64 window, .int .i64 urgent, .int .i64 ty, .int .i64 code, .int .i64 rest, .bool nosum, .slice A n c, .slice D m d])
  try simp only at ta0 ta1 ta2
  have k13 := K.cell (BB.out.row q.out (by omega)) 13 _ rfl
  go_wp2_with (at_builtin; (refine wpList_append_bd rfl BB.out (.tmp 38) (.tmp 40) rfl rfl _ _ m _ (bs) rfl HM.out (BB.out.rb HD.out (by omega)) (by omega) m (by omega) ?_); intro A_BL c_BL w_BL bd_BL; have BL := Lib.hid bd_BL; clear bd_BL)
  go_ret
  exact encOut (by simp) BL.out.len (BL.out.out HE.out (by omega))
set_option maxHeartbeats 8000000 in
theorem upB1 (sport dport seq ack bits window urgent ty code rest : Int) (nosum : Bool) (A D : Option Addr) (n c m d : Nat) (os bs : List UInt8) (sum : Int) (w : World) (hr : RB w w.heap.size A os) (hl : os.length = n) (hs : RB w w.heap.size D bs) (hm : bs.length = m) (hn : n ≤ 40) (hm2 : m ≤ 1500) (h5 : 0 ≤ bits ∧ bits ≤ 4095) (h4 : n % 4 = 0) : Calls Try.prog 70 #[.agg #[.int .i64 1, .int .i64 sport, .int .i64 dport, .int .i64 seq, .int .i64 ack, .int .i64 bits, .int .i64 window, .int .i64 urgent, .int .i64 ty, .int .i64 code, .int .i64 rest, .bool nosum, .slice A n c, .slice D m d], .int .i64 sum] w (EncOut (tcpH (Uh.mk 1 sport dport seq ack bits window urgent ty code rest nosum) os sum ++ bs) w) := by
  have q : Hid ((w.alloc (.cells #[.int .i64 1, .int .i64 sport, .int .i64 dport, .int .i64 seq, .int .i64 ack, .int .i64 bits, .int .i64 window, .int .i64 urgent, .int .i64 ty, .int .i64 code, .int .i64 rest, .bool nosum, .slice A n c, .slice D m d] 36)).heap[w.heap.size]? = some (.cells #[.int .i64 1, .int .i64 sport, .int .i64 dport, .int .i64 seq, .int .i64 ack, .int .i64 bits, .int .i64 window, .int .i64 urgent, .int .i64 ty, .int .i64 code, .int .i64 rest, .bool nosum, .slice A n c, .slice D m d] 36)) := Lib.hid (K.new w _)
  have HA := Lib.hid ((hr.below (Joins.below_alloc1 w (.cells #[.int .i64 1, .int .i64 sport, .int .i64 dport, .int .i64 seq, .int .i64 ack, .int .i64 bits, .int .i64 window, .int .i64 urgent, .int .i64 ty, .int .i64 code, .int .i64 rest, .bool nosum, .slice A n c, .slice D m d] 36))))
  have HD := Lib.hid ((hs.below (Joins.below_alloc1 w (.cells #[.int .i64 1, .int .i64 sport, .int .i64 dport, .int .i64 seq, .int .i64 ack, .int .i64 bits, .int .i64 window, .int .i64 urgent, .int .i64 ty, .int .i64 code, .int .i64 rest, .bool nosum, .slice A n c, .slice D m d] 36))))
  have HE : Hid (Below w.heap.size w (w.alloc (.cells #[.int .i64 1, .int .i64 sport, .int .i64 dport, .int .i64 seq, .int .i64 ack, .int .i64 bits, .int .i64 window, .int .i64 urgent, .int .i64 ty, .int .i64 code, .int .i64 rest, .bool nosum, .slice A n c, .slice D m d] 36))) := Lib.hid (Joins.below_alloc1 w _)
  have HL := Lib.hid hl
  have HM := Lib.hid hm
  have hw : (w.alloc (.cells #[.int .i64 1, .int .i64 sport, .int .i64 dport, .int .i64 seq, .int .i64 ack, .int .i64 bits, .int .i64 window, .int .i64 urgent, .int .i64 ty, .int .i64 code, .int .i64 rest, .bool nosum, .slice A n c, .slice D m d] 36)).heap.size = w.heap.size + 1 := by simp
  try simp only at q HA HD HE hw
  clear hl hm
  have HC := Lib.hid (fun v (b : Below w.heap.size w v) => tcpB sport dport seq ack bits window urgent ty code rest nosum A D n c m d os bs sum v ((hr.below b).more b.size) HL.out ((hs.below b).more b.size) HM.out hn hm2 h5 h4)
  clear hr hs
  have hmk := run_make_z (20 + (n : Int) + m) (20 + n + m) (by omega) (by omega)
  go_enter Try.func70, Try.ntmps70
  go_wp2_with (with_reducible refine loadU rfl _ rfl w.heap.size rfl q.out ?_)
  refine Calls.mono (implUpSize (Uh.mk 1 sport dport seq ack bits window urgent ty code rest nosum) A D n c m d _ (by omega) (by omega)) ?_
  rintro e w1 ⟨rfl, b1⟩
  simp only [show Uh.size (Uh.mk 1 sport dport seq ack bits window urgent ty code rest nosum) n m = 20 + (n : Int) + m from rfl]
  have BA : Hid (Bd (w.alloc (.cells #[.int .i64 1, .int .i64 sport, .int .i64 dport, .int .i64 seq, .int .i64 ack, .int .i64 bits, .int .i64 window, .int .i64 urgent, .int .i64 ty, .int .i64 code, .int .i64 rest, .bool nosum, .slice A n c, .slice D m d] 36)) (w.heap.size + 1) (w1.alloc (.cells (madeCells #[.int .u8 0] (20 + n + m)) 5)) (some ⟨w1.heap.size, 0, none⟩) 0 (20 + n + m) []) := Lib.hid ⟨by have h := World.ownsRow_made (base := w.heap.size + 1) (e := 5) (size := 1) w1 (madeCells #[.int .u8 0] (20 + n + m)) (20 + n + m) (by have := b1.size; simp at this; omega) (by unfold maxLen; omega) (by rw [size_madeCells]; simp); simpa [cellsOf] using h, ((b1.mono (by simp)).alloc (by have := b1.size; simp at this; omega) _), by have := b1.size; simp at this; simp; omega, rfl⟩
  have Q1 := Lib.hid (BA.out.row q.out (by omega))
  clear b1
  go_wp2_with (with_reducible refine loadU rfl _ rfl w.heap.size rfl Q1.out ?_)
  refine Calls.mono (formatOfC (Uh.mk 1 sport dport seq ack bits window urgent ty code rest nosum) A D n c m d _) ?_
  rintro e w2 ⟨rfl, rfl⟩
  simp only [show ∀ v, fmtV 1 v = .iface 110 v from fun _ => rfl]
  have BB := Lib.hid (BA.out.call (Joins.below_alloc1 _ (.cells #[.int .i64 1, .int .i64 sport, .int .i64 dport, .int .i64 seq, .int .i64 ack, .int .i64 bits, .int .i64 window, .int .i64 urgent, .int .i64 ty, .int .i64 code, .int .i64 rest, .bool nosum, .slice A n c, .slice D m d] 36)))
  clear Q1 BA hmk
  try simp only at BB
  generalize (w1.alloc (.cells (madeCells #[.int .u8 0] (20 + n + m)) 5)).alloc (.cells #[.int .i64 1, .int .i64 sport, .int .i64 dport, .int .i64 seq, .int .i64 ack, .int .i64 bits, .int .i64 window, .int .i64 urgent, .int .i64 ty, .int .i64 code, .int .i64 rest, .bool nosum, .slice A n c, .slice D m d] 36) = w3 at BB ⊢
  have ta0 := ta_tcp_tcp (.agg #[.int .i64 1, .int .i64 sport, .int .i64 dport, .int .i64 seq, .int .i64 ack, .int .i64 bits, .int .i64 window, .int .i64 urgent, .int .i64 ty, .int .i64 code, .int .i64 rest, .bool nosum, .slice A n c, .slice D m d])
  try simp only at ta0
  have r3 := Lib.hid (K.new w3 (.cells #[.int .i64 1, .int .i64 sport, .int .i64 dport, .int .i64 seq, .int .i64 ack, .int .i64 bits, .int .i64 window, .int .i64 urgent, .int .i64 ty, .int .i64 code, .int .i64 rest, .bool nosum, .slice A n c, .slice D m d] 110))
  try simp only at r3
  go_wp2_with (first | (with_reducible refine storeNew_tcp rfl _ _ rfl rfl rfl ?_) | (with_reducible refine load_tcp rfl _ rfl w3.heap.size rfl r3.out ?_))
  have BC := Lib.hid (BB.out.call (Joins.below_alloc1 w3 (.cells #[.int .i64 1, .int .i64 sport, .int .i64 dport, .int .i64 seq, .int .i64 ack, .int .i64 bits, .int .i64 window, .int .i64 urgent, .int .i64 ty, .int .i64 code, .int .i64 rest, .bool nosum, .slice A n c, .slice D m d] 110)))
  try simp only at BC
  refine Calls.mono (HC.out _ (HE.out.trans (BC.out.keep.mono (by omega)))) ?_
  rintro e w4 ⟨A4, c4, rfl, o4, b4⟩
  have BE := Lib.hid (BC.out.call b4)
  have P4 := Lib.hid (RB.of_own o4)
  clear o4 b4 BC r3 HC BB
  have hh := Lib.hid (show (tcpH (Uh.mk 1 sport dport seq ack bits window urgent ty code rest nosum) os sum).length = 20 + n by rw [tcpH_len, HL.out])
  rw [hh.out]
  go_wp2_with (first | (at_builtin; (refine wpList_append_bd rfl BE.out (.tmp 17) (.tmp 20) rfl rfl _ _ (20 + n) _ (tcpH (Uh.mk 1 sport dport seq ack bits window urgent ty code rest nosum) os sum) rfl hh.out P4.out (by omega) (20 + n) (by omega) ?_); intro A_BF c_BF w_BF bd_BF; have BF := Lib.hid bd_BF; clear bd_BF; have k13 := K.cell (BF.out.row q.out (by omega)) 13 _ rfl) | (at_builtin; (refine wpList_append_bd rfl BF.out (.tmp 38) (.tmp 40) rfl rfl _ _ m _ (bs) rfl HM.out (BF.out.rb HD.out (by omega)) (by omega) (20 + n + m) (by omega) ?_); intro A_BL c_BL w_BL bd_BL; have BL := Lib.hid bd_BL; clear bd_BL))
  go_ret
  exact encOut (by simp) BL.out.len (BL.out.out HE.out (by omega))
set_option maxHeartbeats 8000000 in
theorem upB2 (sport dport seq ack bits window urgent ty code rest : Int) (nosum : Bool) (A D : Option Addr) (n c m d : Nat) (os bs : List UInt8) (sum : Int) (w : World) (hr : RB w w.heap.size A os) (hl : os.length = n) (hs : RB w w.heap.size D bs) (hm : bs.length = m) (hn : n ≤ 40) (hm2 : m ≤ 1500) : Calls Try.prog 70 #[.agg #[.int .i64 2, .int .i64 sport, .int .i64 dport, .int .i64 seq, .int .i64 ack, .int .i64 bits, .int .i64 window, .int .i64 urgent, .int .i64 ty, .int .i64 code, .int .i64 rest, .bool nosum, .slice A n c, .slice D m d], .int .i64 sum] w (EncOut (udpH (Uh.mk 2 sport dport seq ack bits window urgent ty code rest nosum) m sum ++ bs) w) := by
  have q : Hid ((w.alloc (.cells #[.int .i64 2, .int .i64 sport, .int .i64 dport, .int .i64 seq, .int .i64 ack, .int .i64 bits, .int .i64 window, .int .i64 urgent, .int .i64 ty, .int .i64 code, .int .i64 rest, .bool nosum, .slice A n c, .slice D m d] 36)).heap[w.heap.size]? = some (.cells #[.int .i64 2, .int .i64 sport, .int .i64 dport, .int .i64 seq, .int .i64 ack, .int .i64 bits, .int .i64 window, .int .i64 urgent, .int .i64 ty, .int .i64 code, .int .i64 rest, .bool nosum, .slice A n c, .slice D m d] 36)) := Lib.hid (K.new w _)
  have HA := Lib.hid ((hr.below (Joins.below_alloc1 w (.cells #[.int .i64 2, .int .i64 sport, .int .i64 dport, .int .i64 seq, .int .i64 ack, .int .i64 bits, .int .i64 window, .int .i64 urgent, .int .i64 ty, .int .i64 code, .int .i64 rest, .bool nosum, .slice A n c, .slice D m d] 36))))
  have HD := Lib.hid ((hs.below (Joins.below_alloc1 w (.cells #[.int .i64 2, .int .i64 sport, .int .i64 dport, .int .i64 seq, .int .i64 ack, .int .i64 bits, .int .i64 window, .int .i64 urgent, .int .i64 ty, .int .i64 code, .int .i64 rest, .bool nosum, .slice A n c, .slice D m d] 36))))
  have HE : Hid (Below w.heap.size w (w.alloc (.cells #[.int .i64 2, .int .i64 sport, .int .i64 dport, .int .i64 seq, .int .i64 ack, .int .i64 bits, .int .i64 window, .int .i64 urgent, .int .i64 ty, .int .i64 code, .int .i64 rest, .bool nosum, .slice A n c, .slice D m d] 36))) := Lib.hid (Joins.below_alloc1 w _)
  have HL := Lib.hid hl
  have HM := Lib.hid hm
  have hw : (w.alloc (.cells #[.int .i64 2, .int .i64 sport, .int .i64 dport, .int .i64 seq, .int .i64 ack, .int .i64 bits, .int .i64 window, .int .i64 urgent, .int .i64 ty, .int .i64 code, .int .i64 rest, .bool nosum, .slice A n c, .slice D m d] 36)).heap.size = w.heap.size + 1 := by simp
  try simp only at q HA HD HE hw
  clear hl hm
  have HC := Lib.hid (fun v (b : Below w.heap.size w v) => udpB sport dport seq ack bits window urgent ty code rest nosum A D n c m d os bs sum v ((hr.below b).more b.size) HL.out ((hs.below b).more b.size) HM.out hn hm2)
  clear hr hs
  have hmk := run_make_z (8 + (m : Int)) (8 + m) (by omega) (by omega)
  go_enter Try.func70, Try.ntmps70
  go_wp2_with (with_reducible refine loadU rfl _ rfl w.heap.size rfl q.out ?_)
  refine Calls.mono (implUpSize (Uh.mk 2 sport dport seq ack bits window urgent ty code rest nosum) A D n c m d _ (by omega) (by omega)) ?_
  rintro e w1 ⟨rfl, b1⟩
  simp only [show Uh.size (Uh.mk 2 sport dport seq ack bits window urgent ty code rest nosum) n m = 8 + (m : Int) from rfl]
  have BA : Hid (Bd (w.alloc (.cells #[.int .i64 2, .int .i64 sport, .int .i64 dport, .int .i64 seq, .int .i64 ack, .int .i64 bits, .int .i64 window, .int .i64 urgent, .int .i64 ty, .int .i64 code, .int .i64 rest, .bool nosum, .slice A n c, .slice D m d] 36)) (w.heap.size + 1) (w1.alloc (.cells (madeCells #[.int .u8 0] (8 + m)) 5)) (some ⟨w1.heap.size, 0, none⟩) 0 (8 + m) []) := Lib.hid ⟨by have h := World.ownsRow_made (base := w.heap.size + 1) (e := 5) (size := 1) w1 (madeCells #[.int .u8 0] (8 + m)) (8 + m) (by have := b1.size; simp at this; omega) (by unfold maxLen; omega) (by rw [size_madeCells]; simp); simpa [cellsOf] using h, ((b1.mono (by simp)).alloc (by have := b1.size; simp at this; omega) _), by have := b1.size; simp at this; simp; omega, rfl⟩
  have Q1 := Lib.hid (BA.out.row q.out (by omega))
  clear b1
  go_wp2_with (with_reducible refine loadU rfl _ rfl w.heap.size rfl Q1.out ?_)
  refine Calls.mono (formatOfC (Uh.mk 2 sport dport seq ack bits window urgent ty code rest nosum) A D n c m d _) ?_
  rintro e w2 ⟨rfl, rfl⟩
  simp only [show ∀ v, fmtV 2 v = .iface 111 v from fun _ => rfl]
  have BB := Lib.hid (BA.out.call (Joins.below_alloc1 _ (.cells #[.int .i64 2, .int .i64 sport, .int .i64 dport, .int .i64 seq, .int .i64 ack, .int .i64 bits, .int .i64 window, .int .i64 urgent, .int .i64 ty, .int .i64 code, .int .i64 rest, .bool nosum, .slice A n c, .slice D m d] 36)))
  clear Q1 BA hmk
  try simp only at BB
  generalize (w1.alloc (.cells (madeCells #[.int .u8 0] (8 + m)) 5)).alloc (.cells #[.int .i64 2, .int .i64 sport, .int .i64 dport, .int .i64 seq, .int .i64 ack, .int .i64 bits, .int .i64 window, .int .i64 urgent, .int .i64 ty, .int .i64 code, .int .i64 rest, .bool nosum, .slice A n c, .slice D m d] 36) = w3 at BB ⊢
  have ta0 := ta_udp_tcp (.agg #[.int .i64 2, .int .i64 sport, .int .i64 dport, .int .i64 seq, .int .i64 ack, .int .i64 bits, .int .i64 window, .int .i64 urgent, .int .i64 ty, .int .i64 code, .int .i64 rest, .bool nosum, .slice A n c, .slice D m d])
  have ta1 := ta_udp_udp (.agg #[.int .i64 2, .int .i64 sport, .int .i64 dport, .int .i64 seq, .int .i64 ack, .int .i64 bits, .int .i64 window, .int .i64 urgent, .int .i64 ty, .int .i64 code, .int .i64 rest, .bool nosum, .slice A n c, .slice D m d])
  try simp only at ta0 ta1
  have r3 := Lib.hid (K.new w3 (.cells #[.int .i64 2, .int .i64 sport, .int .i64 dport, .int .i64 seq, .int .i64 ack, .int .i64 bits, .int .i64 window, .int .i64 urgent, .int .i64 ty, .int .i64 code, .int .i64 rest, .bool nosum, .slice A n c, .slice D m d] 111))
  try simp only at r3
  go_wp2_with (first | (with_reducible refine storeNew_udp rfl _ _ rfl rfl rfl ?_) | (with_reducible refine load_udp rfl _ rfl w3.heap.size rfl r3.out ?_))
  have BC := Lib.hid (BB.out.call (Joins.below_alloc1 w3 (.cells #[.int .i64 2, .int .i64 sport, .int .i64 dport, .int .i64 seq, .int .i64 ack, .int .i64 bits, .int .i64 window, .int .i64 urgent, .int .i64 ty, .int .i64 code, .int .i64 rest, .bool nosum, .slice A n c, .slice D m d] 111)))
  try simp only at BC
  refine Calls.mono (HC.out _ (HE.out.trans (BC.out.keep.mono (by omega)))) ?_
  rintro e w4 ⟨A4, c4, rfl, o4, b4⟩
  have BE := Lib.hid (BC.out.call b4)
  have P4 := Lib.hid (RB.of_own o4)
  clear o4 b4 BC r3 HC BB
  have hh := Lib.hid (udpH_len (Uh.mk 2 sport dport seq ack bits window urgent ty code rest nosum) m sum)
  rw [hh.out]
  go_wp2_with (first | (at_builtin; (refine wpList_append_bd rfl BE.out (.tmp 25) (.tmp 28) rfl rfl _ _ 8 _ (udpH (Uh.mk 2 sport dport seq ack bits window urgent ty code rest nosum) m sum) rfl hh.out P4.out (by omega) 8 (by omega) ?_); intro A_BF c_BF w_BF bd_BF; have BF := Lib.hid bd_BF; clear bd_BF; have k13 := K.cell (BF.out.row q.out (by omega)) 13 _ rfl) | (at_builtin; (refine wpList_append_bd rfl BF.out (.tmp 38) (.tmp 40) rfl rfl _ _ m _ (bs) rfl HM.out (BF.out.rb HD.out (by omega)) (by omega) (8 + m) (by omega) ?_); intro A_BL c_BL w_BL bd_BL; have BL := Lib.hid bd_BL; clear bd_BL))
  go_ret
  exact encOut (by simp) BL.out.len (BL.out.out HE.out (by omega))
set_option maxHeartbeats 8000000 in
theorem upB3 (sport dport seq ack bits window urgent ty code rest : Int) (nosum : Bool) (A D : Option Addr) (n c m d : Nat) (os bs : List UInt8) (sum : Int) (w : World) (hr : RB w w.heap.size A os) (hl : os.length = n) (hs : RB w w.heap.size D bs) (hm : bs.length = m) (hn : n ≤ 40) (hm2 : m ≤ 1500) (h8 : 0 ≤ ty ∧ ty ≤ 255) (h9 : 0 ≤ code ∧ code ≤ 255) : Calls Try.prog 70 #[.agg #[.int .i64 3, .int .i64 sport, .int .i64 dport, .int .i64 seq, .int .i64 ack, .int .i64 bits, .int .i64 window, .int .i64 urgent, .int .i64 ty, .int .i64 code, .int .i64 rest, .bool nosum, .slice A n c, .slice D m d], .int .i64 sum] w (EncOut (icmpH (Uh.mk 3 sport dport seq ack bits window urgent ty code rest nosum) sum ++ bs) w) := by
  have q : Hid ((w.alloc (.cells #[.int .i64 3, .int .i64 sport, .int .i64 dport, .int .i64 seq, .int .i64 ack, .int .i64 bits, .int .i64 window, .int .i64 urgent, .int .i64 ty, .int .i64 code, .int .i64 rest, .bool nosum, .slice A n c, .slice D m d] 36)).heap[w.heap.size]? = some (.cells #[.int .i64 3, .int .i64 sport, .int .i64 dport, .int .i64 seq, .int .i64 ack, .int .i64 bits, .int .i64 window, .int .i64 urgent, .int .i64 ty, .int .i64 code, .int .i64 rest, .bool nosum, .slice A n c, .slice D m d] 36)) := Lib.hid (K.new w _)
  have HA := Lib.hid ((hr.below (Joins.below_alloc1 w (.cells #[.int .i64 3, .int .i64 sport, .int .i64 dport, .int .i64 seq, .int .i64 ack, .int .i64 bits, .int .i64 window, .int .i64 urgent, .int .i64 ty, .int .i64 code, .int .i64 rest, .bool nosum, .slice A n c, .slice D m d] 36))))
  have HD := Lib.hid ((hs.below (Joins.below_alloc1 w (.cells #[.int .i64 3, .int .i64 sport, .int .i64 dport, .int .i64 seq, .int .i64 ack, .int .i64 bits, .int .i64 window, .int .i64 urgent, .int .i64 ty, .int .i64 code, .int .i64 rest, .bool nosum, .slice A n c, .slice D m d] 36))))
  have HE : Hid (Below w.heap.size w (w.alloc (.cells #[.int .i64 3, .int .i64 sport, .int .i64 dport, .int .i64 seq, .int .i64 ack, .int .i64 bits, .int .i64 window, .int .i64 urgent, .int .i64 ty, .int .i64 code, .int .i64 rest, .bool nosum, .slice A n c, .slice D m d] 36))) := Lib.hid (Joins.below_alloc1 w _)
  have HL := Lib.hid hl
  have HM := Lib.hid hm
  have hw : (w.alloc (.cells #[.int .i64 3, .int .i64 sport, .int .i64 dport, .int .i64 seq, .int .i64 ack, .int .i64 bits, .int .i64 window, .int .i64 urgent, .int .i64 ty, .int .i64 code, .int .i64 rest, .bool nosum, .slice A n c, .slice D m d] 36)).heap.size = w.heap.size + 1 := by simp
  try simp only at q HA HD HE hw
  clear hl hm
  have HC := Lib.hid (fun v (b : Below w.heap.size w v) => icmpB sport dport seq ack bits window urgent ty code rest nosum A D n c m d os bs sum v ((hr.below b).more b.size) HL.out ((hs.below b).more b.size) HM.out hn hm2 h8 h9)
  clear hr hs
  have hmk := run_make_z (8 + (m : Int)) (8 + m) (by omega) (by omega)
  go_enter Try.func70, Try.ntmps70
  go_wp2_with (with_reducible refine loadU rfl _ rfl w.heap.size rfl q.out ?_)
  refine Calls.mono (implUpSize (Uh.mk 3 sport dport seq ack bits window urgent ty code rest nosum) A D n c m d _ (by omega) (by omega)) ?_
  rintro e w1 ⟨rfl, b1⟩
  simp only [show Uh.size (Uh.mk 3 sport dport seq ack bits window urgent ty code rest nosum) n m = 8 + (m : Int) from rfl]
  have BA : Hid (Bd (w.alloc (.cells #[.int .i64 3, .int .i64 sport, .int .i64 dport, .int .i64 seq, .int .i64 ack, .int .i64 bits, .int .i64 window, .int .i64 urgent, .int .i64 ty, .int .i64 code, .int .i64 rest, .bool nosum, .slice A n c, .slice D m d] 36)) (w.heap.size + 1) (w1.alloc (.cells (madeCells #[.int .u8 0] (8 + m)) 5)) (some ⟨w1.heap.size, 0, none⟩) 0 (8 + m) []) := Lib.hid ⟨by have h := World.ownsRow_made (base := w.heap.size + 1) (e := 5) (size := 1) w1 (madeCells #[.int .u8 0] (8 + m)) (8 + m) (by have := b1.size; simp at this; omega) (by unfold maxLen; omega) (by rw [size_madeCells]; simp); simpa [cellsOf] using h, ((b1.mono (by simp)).alloc (by have := b1.size; simp at this; omega) _), by have := b1.size; simp at this; simp; omega, rfl⟩
  have Q1 := Lib.hid (BA.out.row q.out (by omega))
  clear b1
  go_wp2_with (with_reducible refine loadU rfl _ rfl w.heap.size rfl Q1.out ?_)
  refine Calls.mono (formatOfC (Uh.mk 3 sport dport seq ack bits window urgent ty code rest nosum) A D n c m d _) ?_
  rintro e w2 ⟨rfl, rfl⟩
  simp only [show ∀ v, fmtV 3 v = .iface 112 v from fun _ => rfl]
  have BB := Lib.hid (BA.out.call (Joins.below_alloc1 _ (.cells #[.int .i64 3, .int .i64 sport, .int .i64 dport, .int .i64 seq, .int .i64 ack, .int .i64 bits, .int .i64 window, .int .i64 urgent, .int .i64 ty, .int .i64 code, .int .i64 rest, .bool nosum, .slice A n c, .slice D m d] 36)))
  clear Q1 BA hmk
  try simp only at BB
  generalize (w1.alloc (.cells (madeCells #[.int .u8 0] (8 + m)) 5)).alloc (.cells #[.int .i64 3, .int .i64 sport, .int .i64 dport, .int .i64 seq, .int .i64 ack, .int .i64 bits, .int .i64 window, .int .i64 urgent, .int .i64 ty, .int .i64 code, .int .i64 rest, .bool nosum, .slice A n c, .slice D m d] 36) = w3 at BB ⊢
  have ta0 := ta_icmp_tcp (.agg #[.int .i64 3, .int .i64 sport, .int .i64 dport, .int .i64 seq, .int .i64 ack, .int .i64 bits, .int .i64 window, .int .i64 urgent, .int .i64 ty, .int .i64 code, .int .i64 rest, .bool nosum, .slice A n c, .slice D m d])
  have ta1 := ta_icmp_udp (.agg #[.int .i64 3, .int .i64 sport, .int .i64 dport, .int .i64 seq, .int .i64 ack, .int .i64 bits, .int .i64 window, .int .i64 urgent, .int .i64 ty, .int .i64 code, .int .i64 rest, .bool nosum, .slice A n c, .slice D m d])
  have ta2 := ta_icmp_icmp (.agg #[.int .i64 3, .int .i64 sport, .int .i64 dport, .int .i64 seq, .int .i64 ack, .int .i64 bits, .int .i64 window, .int .i64 urgent, .int .i64 ty, .int .i64 code, .int .i64 rest, .bool nosum, .slice A n c, .slice D m d])
  try simp only at ta0 ta1 ta2
  have r3 := Lib.hid (K.new w3 (.cells #[.int .i64 3, .int .i64 sport, .int .i64 dport, .int .i64 seq, .int .i64 ack, .int .i64 bits, .int .i64 window, .int .i64 urgent, .int .i64 ty, .int .i64 code, .int .i64 rest, .bool nosum, .slice A n c, .slice D m d] 112))
  try simp only at r3
  go_wp2_with (first | (with_reducible refine storeNew_icmp rfl _ _ rfl rfl rfl ?_) | (with_reducible refine load_icmp rfl _ rfl w3.heap.size rfl r3.out ?_))
  have BC := Lib.hid (BB.out.call (Joins.below_alloc1 w3 (.cells #[.int .i64 3, .int .i64 sport, .int .i64 dport, .int .i64 seq, .int .i64 ack, .int .i64 bits, .int .i64 window, .int .i64 urgent, .int .i64 ty, .int .i64 code, .int .i64 rest, .bool nosum, .slice A n c, .slice D m d] 112)))
  try simp only at BC
  refine Calls.mono (HC.out _ (HE.out.trans (BC.out.keep.mono (by omega)))) ?_
  rintro e w4 ⟨A4, c4, rfl, o4, b4⟩
  have BE := Lib.hid (BC.out.call b4)
  have P4 := Lib.hid (RB.of_own o4)
  clear o4 b4 BC r3 HC BB
  have hh := Lib.hid (icmpH_len (Uh.mk 3 sport dport seq ack bits window urgent ty code rest nosum) sum)
  rw [hh.out]
  go_wp2_with (first | (at_builtin; (refine wpList_append_bd rfl BE.out (.tmp 33) (.tmp 36) rfl rfl _ _ 8 _ (icmpH (Uh.mk 3 sport dport seq ack bits window urgent ty code rest nosum) sum) rfl hh.out P4.out (by omega) 8 (by omega) ?_); intro A_BF c_BF w_BF bd_BF; have BF := Lib.hid bd_BF; clear bd_BF; have k13 := K.cell (BF.out.row q.out (by omega)) 13 _ rfl) | (at_builtin; (refine wpList_append_bd rfl BF.out (.tmp 38) (.tmp 40) rfl rfl _ _ m _ (bs) rfl HM.out (BF.out.rb HD.out (by omega)) (by omega) (8 + m) (by omega) ?_); intro A_BL c_BL w_BL bd_BL; have BL := Lib.hid bd_BL; clear bd_BL))
  go_ret
  exact encOut (by simp) BL.out.len (BL.out.out HE.out (by omega))
end Go.Proofs.Ythogonpjkngpjaa
