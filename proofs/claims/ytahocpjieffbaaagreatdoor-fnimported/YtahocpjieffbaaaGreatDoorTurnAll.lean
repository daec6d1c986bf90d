/-
 Texts that are laid as one: Turn, Bw, Spread, Mixed.
-/
import Derived.Test.YtahocpjieffbaaaGreatDoorMath2
import Derived.Deep.QuietTactic
import Derived.BigQuiet
import Derived.BigRegion
import Derived.Laws.CopyOwn
import Derived.Deep.RegionLaw
namespace Go.Proofs.YtahocpjieffbaaaGreatDoor
open Go.RowKit
set_option linter.unusedVariables false
theorem size16:(Tryz.prog.info? 158).map (·.size)=some 16:=by kernel_rfl
def Turns (n:Nat):Prop:=n=2∨n=6∨n=7∨n=11∨n=13∨n=17∨n=18∨n=19∨n=22∨n=25
set_option maxRecDepth 100000 in
theorem spec_turn (a:UInt32) (n:Nat) (x:Int) (w:World) (hn:Turns n) (hx:x=(n:Int)) :
 Calls Tryz.prog 124 #[.int .u32 (num a),.int .u64 x] w fun e w'=>e=.returned (.int .u32 (num (rr a n)))∧w'=w:=by
 subst hx
 rcases hn with rfl | rfl | rfl | rfl | rfl | rfl | rfl | rfl | rfl | rfl
 · have h1:bits .or .u32 (num a / 4) (num a*1073741824 % 4294967296)=num (rr a 2):=(e_rot a 2 _ _ (by decide) (by decide)).1
   go_enter Tryz.func124,Tryz.ntmps124
   go_wp2
   go_ret
   exact⟨rfl,rfl⟩
 · have h1:bits .or .u32 (num a / 64) (num a*67108864 % 4294967296)=num (rr a 6):=(e_rot a 6 _ _ (by decide) (by decide)).1
   go_enter Tryz.func124,Tryz.ntmps124
   go_wp2
   go_ret
   exact⟨rfl,rfl⟩
 · have h1:bits .or .u32 (num a / 128) (num a*33554432 % 4294967296)=num (rr a 7):=(e_rot a 7 _ _ (by decide) (by decide)).1
   go_enter Tryz.func124,Tryz.ntmps124
   go_wp2
   go_ret
   exact⟨rfl,rfl⟩
 · have h1:bits .or .u32 (num a / 2048) (num a*2097152 % 4294967296)=num (rr a 11):=(e_rot a 11 _ _ (by decide) (by decide)).1
   go_enter Tryz.func124,Tryz.ntmps124
   go_wp2
   go_ret
   exact⟨rfl,rfl⟩
 · have h1:bits .or .u32 (num a / 8192) (num a*524288 % 4294967296)=num (rr a 13):=(e_rot a 13 _ _ (by decide) (by decide)).1
   go_enter Tryz.func124,Tryz.ntmps124
   go_wp2
   go_ret
   exact⟨rfl,rfl⟩
 · have h1:bits .or .u32 (num a / 131072) (num a*32768 % 4294967296)=num (rr a 17):=(e_rot a 17 _ _ (by decide) (by decide)).1
   go_enter Tryz.func124,Tryz.ntmps124
   go_wp2
   go_ret
   exact⟨rfl,rfl⟩
 · have h1:bits .or .u32 (num a / 262144) (num a*16384 % 4294967296)=num (rr a 18):=(e_rot a 18 _ _ (by decide) (by decide)).1
   go_enter Tryz.func124,Tryz.ntmps124
   go_wp2
   go_ret
   exact⟨rfl,rfl⟩
 · have h1:bits .or .u32 (num a / 524288) (num a*8192 % 4294967296)=num (rr a 19):=(e_rot a 19 _ _ (by decide) (by decide)).1
   go_enter Tryz.func124,Tryz.ntmps124
   go_wp2
   go_ret
   exact⟨rfl,rfl⟩
 · have h1:bits .or .u32 (num a / 4194304) (num a*1024 % 4294967296)=num (rr a 22):=(e_rot a 22 _ _ (by decide) (by decide)).1
   go_enter Tryz.func124,Tryz.ntmps124
   go_wp2
   go_ret
   exact⟨rfl,rfl⟩
 · have h1:bits .or .u32 (num a / 33554432) (num a*128 % 4294967296)=num (rr a 25):=(e_rot a 25 _ _ (by decide) (by decide)).1
   go_enter Tryz.func124,Tryz.ntmps124
   go_wp2
   go_ret
   exact⟨rfl,rfl⟩
set_option maxRecDepth 100000 in
theorem rot_is (a:UInt32) (n:Nat) (x:Int) (w:World) (hn:Turns n) (hx:x = -(n:Int)) :
 Calls Tryz.prog 144 #[.int .u32 (num a),.int .i64 x] w fun e w'=>e=.returned (.int .u32 (num (rr a n)))∧w'=w:=by
 subst hx
 rcases hn with rfl | rfl | rfl | rfl | rfl | rfl | rfl | rfl | rfl | rfl
 · have h0:bits BinOp.and IntKind.u64 (IntKind.u64.wrap (-2)) 31=30:=by decide +kernel
   have h1:bits .or .u32 (num a*1073741824 % 4294967296) (num a / 4)=num (rr a 2):=(e_rot a 2 _ _ (by decide) (by decide)).2
   go_enter Tryz.func144,Tryz.ntmps144
   go_wp2
   go_ret
   exact⟨rfl,rfl⟩
 · have h0:bits BinOp.and IntKind.u64 (IntKind.u64.wrap (-6)) 31=26:=by decide +kernel
   have h1:bits .or .u32 (num a*67108864 % 4294967296) (num a / 64)=num (rr a 6):=(e_rot a 6 _ _ (by decide) (by decide)).2
   go_enter Tryz.func144,Tryz.ntmps144
   go_wp2
   go_ret
   exact⟨rfl,rfl⟩
 · have h0:bits BinOp.and IntKind.u64 (IntKind.u64.wrap (-7)) 31=25:=by decide +kernel
   have h1:bits .or .u32 (num a*33554432 % 4294967296) (num a / 128)=num (rr a 7):=(e_rot a 7 _ _ (by decide) (by decide)).2
   go_enter Tryz.func144,Tryz.ntmps144
   go_wp2
   go_ret
   exact⟨rfl,rfl⟩
 · have h0:bits BinOp.and IntKind.u64 (IntKind.u64.wrap (-11)) 31=21:=by decide +kernel
   have h1:bits .or .u32 (num a*2097152 % 4294967296) (num a / 2048)=num (rr a 11):=(e_rot a 11 _ _ (by decide) (by decide)).2
   go_enter Tryz.func144,Tryz.ntmps144
   go_wp2
   go_ret
   exact⟨rfl,rfl⟩
 · have h0:bits BinOp.and IntKind.u64 (IntKind.u64.wrap (-13)) 31=19:=by decide +kernel
   have h1:bits .or .u32 (num a*524288 % 4294967296) (num a / 8192)=num (rr a 13):=(e_rot a 13 _ _ (by decide) (by decide)).2
   go_enter Tryz.func144,Tryz.ntmps144
   go_wp2
   go_ret
   exact⟨rfl,rfl⟩
 · have h0:bits BinOp.and IntKind.u64 (IntKind.u64.wrap (-17)) 31=15:=by decide +kernel
   have h1:bits .or .u32 (num a*32768 % 4294967296) (num a / 131072)=num (rr a 17):=(e_rot a 17 _ _ (by decide) (by decide)).2
   go_enter Tryz.func144,Tryz.ntmps144
   go_wp2
   go_ret
   exact⟨rfl,rfl⟩
 · have h0:bits BinOp.and IntKind.u64 (IntKind.u64.wrap (-18)) 31=14:=by decide +kernel
   have h1:bits .or .u32 (num a*16384 % 4294967296) (num a / 262144)=num (rr a 18):=(e_rot a 18 _ _ (by decide) (by decide)).2
   go_enter Tryz.func144,Tryz.ntmps144
   go_wp2
   go_ret
   exact⟨rfl,rfl⟩
 · have h0:bits BinOp.and IntKind.u64 (IntKind.u64.wrap (-19)) 31=13:=by decide +kernel
   have h1:bits .or .u32 (num a*8192 % 4294967296) (num a / 524288)=num (rr a 19):=(e_rot a 19 _ _ (by decide) (by decide)).2
   go_enter Tryz.func144,Tryz.ntmps144
   go_wp2
   go_ret
   exact⟨rfl,rfl⟩
 · have h0:bits BinOp.and IntKind.u64 (IntKind.u64.wrap (-22)) 31=10:=by decide +kernel
   have h1:bits .or .u32 (num a*1024 % 4294967296) (num a / 4194304)=num (rr a 22):=(e_rot a 22 _ _ (by decide) (by decide)).2
   go_enter Tryz.func144,Tryz.ntmps144
   go_wp2
   go_ret
   exact⟨rfl,rfl⟩
 · have h0:bits BinOp.and IntKind.u64 (IntKind.u64.wrap (-25)) 31=7:=by decide +kernel
   have h1:bits .or .u32 (num a*128 % 4294967296) (num a / 33554432)=num (rr a 25):=(e_rot a 25 _ _ (by decide) (by decide)).2
   go_enter Tryz.func144,Tryz.ntmps144
   go_wp2
   go_ret
   exact⟨rfl,rfl⟩
set_option maxRecDepth 100000 in
theorem impl_turn (a:UInt32) (n:Nat) (x:Int) (w:World) (hn:Turns n) (hx:x=(n:Int)) :
 Calls Tryz.prog 133 #[.int .u32 (num a),.int .i64 x] w fun e w'=>e=.returned (.int .u32 (num (rr a n)))∧w'=w:=by
 subst hx
 have H:=fun x hx=>rot_is a n x w hn hx
 have hn':n<32:=by unfold Turns at hn;omega
 clear hn
 go_enter Tryz.func133,Tryz.ntmps133
 go_wp2_with fail
 refine (H _ ?_).mono ?_
 · go_num
 rintro e w1 ⟨rfl,rfl⟩
 go_wp2
 go_ret
 exact⟨rfl,rfl⟩
set_option maxRecDepth 100000 in
set_option maxHeartbeats 400000 in
theorem impl_bw (l:List UInt8) (w:World) (hl:l.length=64) :
 Calls Tryz.prog 109 #[.string ⟨l.toArray⟩] w fun e w'=>e=.returned (.agg (wcells (bws l 64)).toArray)∧Below w.heap.size w w':=by
 have HZ:Hid (wcells (bws l 0)=List.replicate 16 (.int .u32 0)):=by rw[Hid,bws_zero];rfl
 obtain⟨cs,hcs⟩:∃ cs,cs=(wcells (bws l 64)).toArray:=⟨_,rfl⟩
 rw[←hcs]
 have HC:Hid (cs=(wcells (bws l 64)).toArray):=hcs
 clear hcs
 go_enter Tryz.func109,Tryz.ntmps109
 go_wp2
 go_loopw [4,7] (fun _ i wr=>∃ j:Nat,j≤64∧i=.int .i64 (j:Int)∧Arr wr (w.heap.size+1) 158 (bws l j)∧Below w.heap.size w wr∧(∃ old,wr.heap[w.heap.size]? = some (.cells old 158 (0,0))∧old.size=16)) (fun _ i _=>64 - (intOf i).toNat)
 case atStart =>
  refine⟨0,by omega,rfl,?_,((Below.refl _ _).alloc (Nat.le_refl _) _).alloc (by simp) _,?_⟩
  · unfold Arr;rw[HZ.out];exact heap_alloc2_new _ _ _
  · exact⟨_,heap_alloc2_old _ _ _,rfl⟩
 case round =>
  obtain⟨j,hj,rfl,hA,hbel,hold⟩:=hrel
  by_cases hlt:j<64
  · have hjl:j<l.length:=by omega
    have hq0:(j:Int).tdiv 4=((j / 4:Nat):Int):=by rw[Int.tdiv_eq_ediv_of_nonneg (by omega)];omega
    have c1:=hA.cell (j / 4) (by rw[bws_length];omega)
    rw[bws_at l j (j / 4) (by omega)] at c1
    have f1:=hA.free (j / 4)
    have hix:=fun W=>ix_at (P:=Tryz.prog) Tryz.underlying9 l (j:Int) j rfl hjl W
    have hap:=e_ap (bw l j (j / 4)) l[j]
    have hS:Hid (Arr (wr.setCell ⟨w.heap.size+1,j / 4,none⟩ (.int .u32 (num (ap (bw l j (j / 4)) l[j])))) (w.heap.size+1) 158 (bws l (j+1))):=by
     have:=hA.set (j / 4) (ap (bw l j (j / 4)) l[j])
     rw[bws_step l j hjl hlt] at this
     exact this
    obtain⟨x,hx⟩:∃ x,x=bw l j (j / 4):=⟨_,rfl⟩
    obtain⟨y,hy⟩:∃ y,y=l[j]:=⟨_,rfl⟩
    rw[←hx,←hy] at hap hS
    rw[←hx] at c1
    rw[←hy] at hix
    obtain⟨k,hk⟩:∃ k,k=j / 4:=⟨_,rfl⟩
    rw[←hk] at hq0 c1 f1 hS
    have hk16:k<16:=by omega
    have hj0:(j:Int)<64:=by omega
    have hy0:(y.toNat:Int) % 4294967296=(y.toNat:Int):=by have:=y.toNat_lt;omega
    obtain⟨old,ho1,ho2⟩:=hold
    have HO:Hid (wr.heap[w.heap.size]? = some (.cells old 158 (0,0))):=ho1
    have HB:Hid (Below w.heap.size w wr):=hbel
    clear hx hy hk hA hl HZ hjl ho1 hbel
    go_wp2
    go_region
    go_wp2
    go_roundw
    case rel=>exact⟨j+1,by omega,by go_num,hS.out.kept rfl,⟨HB.out.os,HB.out.tape,HB.out.output,by have:=HB.out.size;simpa [World.setCell] using this,fun i hi=>by rw[heap_drew,heap_setCell_other _ _ _ _ (by simp;omega)];exact HB.out.block i hi⟩,old,by rw[heap_drew,heap_setCell_other _ _ _ _ (by simp)];exact HO.out,ho2⟩
    case measure=>simp[intOf];omega
  · have hj64:j=64:=by omega
    subst hj64
    obtain⟨old,ho1,ho2⟩:=hold
    have hz:(wcells (bws l 64)).toArray.size=16:=by simp[wcells_length,bws_length]
    have h1:=wcells_one (bws l 64)
    have hA':wr.heap[w.heap.size+1]? = some (.cells (wcells (bws l 64)).toArray 158 (0,0)):=hA
    rw[←HC.out] at hz h1 hA'
    clear hA HZ
    have hsz:(Tryz.prog.info? 158).map (·.size)=some cs.size:=by rw[hz];exact size16
    have hso:old.size=cs.size:=by omega
    have hW:=setRow_heap wr w.heap.size old cs 158 (0,0) ho1
    have hbW:=below_setRow hbel (Nat.le_refl _) cs
    clear hz ho2
    go_wp2_with (first | refine wpList_load_row rfl 158 _ rfl (w.heap.size+1) rfl 158 cs (0,0) _ hA' Tryz.underlying158 rfl hsz ?_ | refine wpList_store_row rfl 158 _ _ rfl w.heap.size cs rfl rfl 158 old ho1 hsz hso h1 ?_)
    exact bodyPost_ret (v:=.agg cs) (results_cell_row rfl _ _ w.heap.size 158 cs (0,0) _ rfl hW Tryz.underlying158 rfl hsz) rfl ⟨rfl,hbW⟩
theorem size64:(Tryz.prog.info? 179).map (·.size)=some 64:=by kernel_rfl
theorem sizeW:(Tryz.prog.info? 132).map (·.size)=some 1:=by kernel_rfl
theorem arr3 (w:World) (A B C:Obj) :
 (((w.alloc A).alloc B).alloc C).heap[w.heap.size]? = some A∧(((w.alloc A).alloc B).alloc C).heap[w.heap.size+1]? = some B ∧
 (((w.alloc A).alloc B).alloc C).heap[w.heap.size+1+1]? = some C∧(((w.alloc A).alloc B).alloc C).heap.size=w.heap.size+3∧Below w.heap.size w (((w.alloc A).alloc B).alloc C):=by
 refine⟨?_,?_,?_,by simp,(((Below.refl _ _).alloc (Nat.le_refl _) _).alloc (by simp) _).alloc (by simp;omega) _⟩
 · rw[Below.heap_alloc _ _ _ (by simp;omega),Below.heap_alloc _ _ _ (by simp)];exact heap_alloc_at _ _ _ rfl
 · rw[Below.heap_alloc _ _ _ (by simp)];exact heap_alloc_at _ _ _ (by simp)
 · exact heap_alloc_at _ _ _ (by simp)
theorem heap_drewN (w:World) (q:Nat):(w.drewN q).heap=w.heap:=rfl
theorem zeros64 (W:World) (b t:Nat) (h:W.heap[b]? = some (.cells (List.replicate 64 (Value.int .u32 0)).toArray t (0,0))):∃ old,W.heap[b]? = some (.cells old t (0,0))∧old.size=64:=⟨_,h,rfl⟩
theorem splice_part (m:List UInt32) (hm:m.length=16):splice (List.replicate 64 (Value.int .u32 0)) 0 (wcells m)=wcells (part m 64):=by
 simp[splice,wcells,part,hm,num_zero]
set_option maxRecDepth 100000 in
set_option maxHeartbeats 400000 in
theorem impl_spread (m:List UInt32) (w:World) (hm:m.length=16) :
 Calls Tryz.prog 132 #[.agg (wcells m).toArray] w fun e w'=>e=.returned (.agg (wcells (sch m 48)).toArray)∧Below w.heap.size w w':=by
 obtain⟨cs,hcs⟩:∃ cs,cs=(wcells (sch m 48)).toArray:=⟨_,rfl⟩
 rw[←hcs]
 have HC:Hid (cs=(wcells (sch m 48)).toArray):=hcs
 clear hcs
 obtain⟨ms,hms⟩:∃ ms,ms=(wcells m).toArray:=⟨_,rfl⟩
 rw[←hms]
 have HM:Hid (ms=(wcells m).toArray):=hms
 clear hms
 have HW:=arr3 w (.cells ms 158) (.cells (List.replicate 64 (Value.int .u32 0)).toArray 179) (.cells (List.replicate 64 (Value.int .u32 0)).toArray 179)
 have HW1:Hid (∀ j v,(wcells m)[j]? = some v→(((w.alloc (.cells ms 158)).alloc (.cells (List.replicate 64 (Value.int .u32 0)).toArray 179)).alloc (.cells (List.replicate 64 (Value.int .u32 0)).toArray 179)).cell? ((⟨w.heap.size,0,none⟩:Addr).add j)=some v):=by
  intro j v hv
  rw[add_none,cell_of_row _ _ j _ _ _ HW.1,HM.out]
  simpa using hv
 have HW2:=HW.2.2.1
 have HW3:=HW.2.1
 have HW4:=HW.2.2.2.2
 have HW5:=HW.2.2.2.1
 have HH:Hid (_∧_∧_∧_):=⟨HW2,HW3,HW4,HW5⟩
 have hml:(wcells m).length=Nat.min 16 64:=by rw[wcells_length,hm];rfl
 clear HW HW2 HW3 HW4 HW5
 go_enter Tryz.func132,Tryz.ntmps132
 go_wp2
 go_region_law (refine step_copy_splice rfl (.tmp 7) (.tmp 8) 148 148 rfl 132 Tryz.underlying148 sizeW (some ⟨w.heap.size+1+1,0,none⟩) (some ⟨w.heap.size,0,none⟩) 64 64 16 16 (by simp[Act.eval,Act.put]) (by simp[Act.eval,Act.put]) (w.heap.size+1+1) 0 (List.replicate 64 (Value.int .u32 0)) 179 HH.out.1 (wcells m) hml (fun _=>⟨rfl,_,rfl,HW1.out⟩) (by rw[wcells_length,hm];decide) (wcells_mem m) (w.heap.size+1+1) (((w.alloc (.cells ms 158)).alloc (.cells (List.replicate 64 (Value.int .u32 0)).toArray 179)).alloc (.cells (List.replicate 64 (Value.int .u32 0)).toArray 179)) ⟨rfl,rfl,rfl,Nat.le_refl _,fun _ _=>rfl⟩ (Nat.le_refl _) ?_;intro w4 hg4 hb4)
 have hA4:Arr w4 (w.heap.size+1+1) 179 (part (sch m 0) 64):=by
  have:=hg4.out
  rw[splice_part m hm] at this
  exact this
 have hO4:∃ old,w4.heap[w.heap.size+1]? = some (.cells old 179 (0,0))∧old.size=64:=zeros64 _ _ _ ((hb4.block _ (by omega)).trans HH.out.2.1)
 have hB4:Below w.heap.size w w4:=HH.out.2.2.1.trans (Below.mono hb4 (show w.heap.size≤w.heap.size+1+1 by omega))
 clear hg4 hb4 HH HW1 HM
 go_wp2
 go_loopw [4,5,6] (fun i _ _ wr=>∃ n:Nat,16≤n∧n≤64∧i=.int .i64 (n:Int)∧Arr wr (w.heap.size+1+1) 179 (part (sch m (n - 16)) 64)∧Below w.heap.size w wr∧(∃ old,wr.heap[w.heap.size+1]? = some (.cells old 179 (0,0))∧old.size=64)) (fun i _ _ _=>64 - (intOf i).toNat)
 case atStart=>exact⟨16,by omega,by omega,rfl,hA4,hB4,hO4⟩
 case round =>
  obtain⟨n,hn16,hn,rfl,hA,hbel,hold⟩:=hrel
  clear hA4 hB4 hO4
  by_cases hlt:n<64
  · have hsl:(sch m (n - 16)).length=n:=by rw[sch_length,hm];omega
    have c15:=arr_known hA (n - 15) (by omega) (by omega)
    have c2:=arr_known hA (n - 2) (by omega) (by omega)
    have c16:=arr_known hA (n - 16) (by omega) (by omega)
    have c7:=arr_known hA (n - 7) (by omega) (by omega)
    have f1:=hA.free n
    have cn:=hA.cell n (by rw[part_length _ _ (by omega)];exact hlt)
    obtain⟨z,hz⟩:∃ z,z=(part (sch m (n - 16)) 64)[n]'(by rw[part_length _ _ (by omega)];exact hlt):=⟨_,rfl⟩
    rw[←hz] at cn
    clear hz
    have hS:Arr (wr.setCell ⟨w.heap.size+1+1,n,none⟩ (.int .u32 (num (nxt (sch m (n - 16)))))) (w.heap.size+1+1) 179 (part (sch m (n+1 - 16)) 64):=by
     have:=hA.set n (nxt (sch m (n - 16)))
     have e1:=part_set (sch m (n - 16)) 64 (nxt (sch m (n - 16))) (by omega)
     rw[hsl] at e1
     rw[e1] at this
     rw[show n+1 - 16=(n - 16)+1 by omega]
     exact this
    have hnx:nxt (sch m (n - 16))=ad (ad (ad ((sch m (n - 16)).getD (n - 16) 0) (s0 ((sch m (n - 16)).getD (n - 15) 0))) ((sch m (n - 16)).getD (n - 7) 0)) (s1 ((sch m (n - 16)).getD (n - 2) 0)):=by unfold nxt;rw[hsl]
    rw[hnx] at hS
    obtain⟨x,hx⟩:∃ x,x=(sch m (n - 16)).getD (n - 15) 0:=⟨_,rfl⟩
    obtain⟨y,hy⟩:∃ y,y=(sch m (n - 16)).getD (n - 2) 0:=⟨_,rfl⟩
    obtain⟨p,hp⟩:∃ p,p=(sch m (n - 16)).getD (n - 16) 0:=⟨_,rfl⟩
    obtain⟨q,hq⟩:∃ q,q=(sch m (n - 16)).getD (n - 7) 0:=⟨_,rfl⟩
    rw[←hx,←hy,←hp,←hq] at hS
    rw[←hx] at c15
    rw[←hy] at c2
    rw[←hp] at c16
    rw[←hq] at c7
    have HS:Hid (Arr (wr.setCell ⟨w.heap.size+1+1,n,none⟩ (.int .u32 (num (ad (ad (ad p (s0 x)) q) (s1 y))))) (w.heap.size+1+1) 179 (part (sch m (n+1 - 16)) 64)):=hS
    obtain⟨old,ho1,ho2⟩:=hold
    have HO:Hid (wr.heap[w.heap.size+1]? = some (.cells old 179 (0,0))):=ho1
    have HB:Hid (Below w.heap.size w wr):=hbel
    have i15:(n:Int) - 15=((n - 15:Nat):Int):=by omega
    have i2:(n:Int) - 2=((n - 2:Nat):Int):=by omega
    have i16:(n:Int) - 16=((n - 16:Nat):Int):=by omega
    have i7:(n:Int) - 7=((n - 7:Nat):Int):=by omega
    have hn64:(n:Int)<64:=by omega
    have H7:=fun W=>impl_turn x 7 7 W (by simp[Turns]) rfl
    have H18:=fun W=>impl_turn x 18 18 W (by simp[Turns]) rfl
    have H17:=fun W=>impl_turn y 17 17 W (by simp[Turns]) rfl
    have H19:=fun W=>impl_turn y 19 19 W (by simp[Turns]) rfl
    have hxo:=e_xor
    have had:=e_add
    have h3:=e_shr x 3 8 (by decide)
    have h10:=e_shr y 10 1024 (by decide)
    have hs0:Hid (xo (xo (rr x 7) (rr x 18)) (sr x 3)=s0 x):=rfl
    have hs1:Hid (xo (xo (rr y 17) (rr y 19)) (sr y 10)=s1 y):=rfl
    clear hx hy hp hq hA hsl hnx hS ho1 hbel
    go_wp2
    go_quiet (fail)
    go_wp2_with fail
    refine (H7 _).mono ?_
    rintro e w1 ⟨rfl,rfl⟩
    go_wp2_with fail
    refine (H18 _).mono ?_
    rintro e w1 ⟨rfl,rfl⟩
    go_wp2_with fail
    refine (H17 _).mono ?_
    rintro e w1 ⟨rfl,rfl⟩
    go_wp2_with fail
    refine (H19 _).mono ?_
    rintro e w1 ⟨rfl,rfl⟩
    go_wp2
    go_region
    go_wp2
    go_roundw
    case rel=>exact⟨n+1,by omega,by omega,by go_num,by have:=HS.out;exact this.kept rfl,⟨HB.out.os,HB.out.tape,HB.out.output,by have:=HB.out.size;simpa [World.setCell] using this,fun i hi=>(heap_setCell_other wr _ i _ (by simp;omega)).trans (HB.out.block i hi)⟩,old,(heap_setCell_other wr _ _ _ (by simp)).trans HO.out,ho2⟩
    case measure=>simp[intOf];omega
  · have hn64:n=64:=by omega
    subst hn64
    obtain⟨old,ho1,ho2⟩:=hold
    have hl48:(sch m 48).length=64:=by rw[sch_length,hm]
    have hA':wr.heap[w.heap.size+1+1]? = some (.cells (wcells (sch m 48)).toArray 179 (0,0)):=by
     have:=hA
     rw[part_full _ _ (by exact hl48)] at this
     exact this
    have hz:(wcells (sch m 48)).toArray.size=64:=by simp[wcells_length,hl48]
    have h1:=wcells_one (sch m 48)
    rw[←HC.out] at hz h1 hA'
    have hsz:(Tryz.prog.info? 179).map (·.size)=some cs.size:=by rw[hz];exact size64
    have hso:old.size=cs.size:=by omega
    have hW:=setRow_heap wr (w.heap.size+1) old cs 179 (0,0) ho1
    have hbW:=below_setRow hbel (Nat.le_succ _) cs
    clear hA hz ho2 hl48 hm
    go_wp2_with (first | refine wpList_load_row rfl 179 _ rfl (w.heap.size+1+1) rfl 179 cs (0,0) _ hA' Tryz.underlying179 rfl hsz ?_ | refine wpList_store_row rfl 179 _ _ rfl (w.heap.size+1) cs rfl rfl 179 old ho1 hsz hso h1 ?_)
    exact bodyPost_ret (v:=.agg cs) (results_cell_row rfl _ _ (w.heap.size+1) 179 cs (0,0) _ rfl hW Tryz.underlying179 rfl hsz) rfl ⟨rfl,hbW⟩
theorem size8:(Tryz.prog.info? 133).map (·.size)=some 8:=by kernel_rfl
def Tab (w:World):Prop:=1<w.heap.size∧∀ i,i<64→w.cell? ⟨1,i,none⟩=some (.int .u32 (num (kL.getD i 0)))
theorem Tab.later {w w':World} (h:Tab w) (hb:Below w.heap.size w w'):Tab w':=⟨Nat.lt_of_lt_of_le h.1 hb.size,fun i hi=>(hb.cell (p:=⟨1,i,none⟩) h.1).trans (h.2 i hi)⟩
structure Same (W w:World):Prop where
 heap:w.heap=W.heap
 os:w.os=W.os
 tape:w.tape=W.tape
 output:w.output=W.output
theorem Same.refl (W:World):Same W W:=⟨rfl,rfl,rfl,rfl⟩
theorem Same.drewN {W w:World} (h:Same W w) (q:Nat):Same W (w.drewN q):=⟨h.heap,h.os,h.tape,h.output⟩
theorem Same.cell {W w:World} (h:Same W w) (a:Addr):w.cell? a=W.cell? a:=by simp only[World.cell?,h.heap]
theorem Same.below {W w w0:World} {B:Nat} (h:Same W w) (hb:Below B w0 W):Below B w0 w:=⟨h.os.trans hb.os,h.tape.trans hb.tape,h.output.trans hb.output,by rw[h.heap];exact hb.size,fun k hk=>by rw[h.heap];exact hb.block k hk⟩
set_option maxRecDepth 100000 in
set_option maxHeartbeats 1000000 in
theorem impl_mixed (s : S8) (m : List UInt32) (w : World) (hm : m.length = 16) (hT : Tab w) :
 Calls Tryz.prog 108 #[.agg (wcells s.l).toArray,.agg (wcells m).toArray] w fun e w'=>e=.returned (.agg (wcells (mix s m).l).toArray)∧Below w.heap.size w w':=by
 obtain⟨ms,hms⟩:∃ ms,ms=(wcells m).toArray:=⟨_,rfl⟩
 have hmz:ms.size=16:=by rw[hms];simp[wcells_length,hm]
 have HS:=fun W=>impl_spread m W hm
 have hl48:(sch m 48).length=64:=by rw[sch_length,hm]
 have hz64:(wcells (sch m 48)).toArray.size=64:=by simp[wcells_length,hl48]
 have h164:=wcells_one (sch m 48)
 rw[←hms] at HS ⊢
 obtain⟨fin,hfin⟩:∃ fin,fin=plus (rnds kL (sch m 48) s 64) s:=⟨_,rfl⟩
 have hfm:mix s m=fin:=by rw[hfin];rfl
 rw[hfm]
 obtain⟨cf,hcf⟩:∃ cf,cf=(wcells fin.l).toArray:=⟨_,rfl⟩
 rw[←hcf]
 have HCF:Hid (cf=(wcells fin.l).toArray):=hcf
 clear hcf
 obtain⟨ws,hws⟩:∃ ws,ws=sch m 48:=⟨_,rfl⟩
 rw[←hws] at HS hz64 h164 hl48 hfin
 obtain⟨cs,hcs⟩:∃ cs,cs=(wcells ws).toArray:=⟨_,rfl⟩
 rw[←hcs] at HS hz64 h164
 have HC:Hid (cs=(wcells ws).toArray):=hcs
 have HF:Hid (fin=plus (rnds kL ws s 64) s):=hfin
 clear hms hcs hfin hfm hws
 obtain⟨a,b,c,d,e,f,g,h⟩:=s
 simp only[S8.l,wcells,List.map]
 have hsz16:(Tryz.prog.info? 158).map (·.size)=some ms.size:=by rw[hmz];exact size16
 have hsz64:(Tryz.prog.info? 179).map (·.size)=some cs.size:=by rw[hz64];exact size64
 have HW:=arr3 w (.cells #[.int .u32 (num a),.int .u32 (num b),.int .u32 (num c),.int .u32 (num d),.int .u32 (num e),.int .u32 (num f),.int .u32 (num g),.int .u32 (num h)] 133) (.cells ms 158) (.cells #[.int .u32 0,.int .u32 0,.int .u32 0,.int .u32 0,.int .u32 0,.int .u32 0,.int .u32 0,.int .u32 0] 133)
 obtain⟨W0,hW0⟩:∃ W0,W0=((w.alloc (.cells #[.int .u32 (num a),.int .u32 (num b),.int .u32 (num c),.int .u32 (num d),.int .u32 (num e),.int .u32 (num f),.int .u32 (num g),.int .u32 (num h)] 133)).alloc (.cells ms 158)).alloc (.cells #[.int .u32 0,.int .u32 0,.int .u32 0,.int .u32 0,.int .u32 0,.int .u32 0,.int .u32 0,.int .u32 0] 133):=⟨_,rfl⟩
 rw[←hW0] at HW
 have HH:Hid (_∧_∧_∧_∧_):=HW
 have HX:Hid (W0=_):=hW0
 have hms:W0.heap[w.heap.size+1]? = some (.cells ms 158 (0,0)):=HW.2.1
 rw[hW0] at hms
 clear HW hW0
 go_enter Tryz.func108,Tryz.ntmps108
 go_wp2_with (refine wpList_load_row rfl 158 _ rfl (w.heap.size+1) rfl 158 ms (0,0) _ hms Tryz.underlying158 rfl hsz16 ?_)
 rw[←HX.out]
 refine (HS _).mono ?_
 rintro e' w1 ⟨rfl,hb1⟩
 clear HS hms HX
 have hz0:w1.heap.size=w1.heap.size:=rfl
 go_wp2_with (refine store_laid rfl 179 _ _ rfl w1.heap.size cs rfl rfl 179 _ (heap_alloc_new w1 _) hsz64 (hz64.symm ▸ rfl) h164 ?_;intro W2 hW2)
 have hg3:w.heap.size+3≤w1.heap.size:=by have:=hb1.size;have:=HH.out.2.2.2.1;omega
 have hst2:W2.heap[w.heap.size]? = some (.cells #[.int .u32 (num a),.int .u32 (num b),.int .u32 (num c),.int .u32 (num d),.int .u32 (num e),.int .u32 (num f),.int .u32 (num g),.int .u32 (num h)] 133 (0,0)):=by
  rw[hW2.other _ (by omega),Below.heap_alloc _ _ _ (by omega),hb1.block _ (by have:=HH.out.2.2.2.1;omega)];exact HH.out.1
 have hre2:W2.heap[w.heap.size+1+1]? = some (.cells #[.int .u32 0,.int .u32 0,.int .u32 0,.int .u32 0,.int .u32 0,.int .u32 0,.int .u32 0,.int .u32 0] 133 (0,0)):=by
  rw[hW2.other _ (by omega),Below.heap_alloc _ _ _ (by omega),hb1.block _ (by have:=HH.out.2.2.2.1;omega)];exact HH.out.2.2.1
 have hAw:Arr W2 w1.heap.size 179 (ws):=by have:=hW2.row;rw[HC.out] at this;exact this
 have hB2:Below w.heap.size w W2:=hW2.below ((HH.out.2.2.2.2.trans (hb1.mono (by have:=HH.out.2.2.2.1;omega))).alloc (by omega) _) (by omega)
 have hT2:Tab W2:=hT.later hB2
 have hs2:W2.heap.size=w1.heap.size+1:=by rw[hW2.size];simp
 have HST:Hid (_=_):=hst2
 have HRE:Hid (_=_):=hre2
 have q0:=cell_of_row W2 w.heap.size 0 _ _ _ hst2
 have q1:=cell_of_row W2 w.heap.size 1 _ _ _ hst2
 have q2:=cell_of_row W2 w.heap.size 2 _ _ _ hst2
 have q3:=cell_of_row W2 w.heap.size 3 _ _ _ hst2
 have q4:=cell_of_row W2 w.heap.size 4 _ _ _ hst2
 have q5:=cell_of_row W2 w.heap.size 5 _ _ _ hst2
 have q6:=cell_of_row W2 w.heap.size 6 _ _ _ hst2
 have q7:=cell_of_row W2 w.heap.size 7 _ _ _ hst2
 clear hst2 hre2 hb1 hW2 hsz16 hmz hz64 h164 HH hz0 hT
 go_wp2
 go_quiet (fail)
 go_wp2
 go_quiet (fail)
 go_wp2
 go_loopw [6,7,8,9,10,11,12,13,39] (fun xa xb xc xd xe xf xg xh i wr=>∃ n:Nat,∃ s:S8,n≤64∧i=.int .i64 (n:Int)∧Hid (s=rnds kL (ws) ⟨a,b,c,d,e,f,g,h⟩ n)∧Same W2 wr∧xa=.int .u32 (num s.a)∧xb=.int .u32 (num s.b)∧xc=.int .u32 (num s.c)∧xd=.int .u32 (num s.d)∧xe=.int .u32 (num s.e)∧xf=.int .u32 (num s.f)∧xg=.int .u32 (num s.g)∧xh=.int .u32 (num s.h)) (fun _ _ _ _ _ _ _ _ i _=>64 - (intOf i).toNat)
 case atStart=>exact⟨0,⟨a,b,c,d,e,f,g,h⟩,by omega,rfl,rfl,(Same.refl W2).drewN _ |>.drewN _,rfl,rfl,rfl,rfl,rfl,rfl,rfl,rfl⟩
 case round =>
  obtain⟨n,s,hn,rfl,HSS,hsame,rfl,rfl,rfl,rfl,rfl,rfl,rfl,rfl⟩:=hrel
  clear q0 q1 q2 q3 q4 q5 q6 q7
  by_cases hlt:n<64
  · have hk:=(hsame.cell _).trans (hT2.2 n hlt)
    have hwd:=(hsame.cell _).trans (hAw.cell n (by rw[hl48];exact hlt))
    have hgd:(ws)[n]'(by rw[hl48];exact hlt)=(ws).getD n 0:=by simp[List.getD,hl48,hlt]
    rw[hgd] at hwd
    have HN:Hid (rnd s (kL.getD n 0) ((ws).getD n 0)=rnds kL (ws) ⟨a,b,c,d,e,f,g,h⟩ (n+1)):=by rw[Hid,HSS.out];rfl
    obtain⟨k,hk'⟩:∃ k,k=kL.getD n 0:=⟨_,rfl⟩
    obtain⟨x,hx'⟩:∃ x,x=(ws).getD n 0:=⟨_,rfl⟩
    rw[←hk',←hx'] at HN
    rw[←hk'] at hk
    rw[←hx'] at hwd
    have hn64:(n:Int)<64:=by omega
    have h6:=fun W=>impl_turn s.e 6 6 W (by simp[Turns]) rfl
    have h11:=fun W=>impl_turn s.e 11 11 W (by simp[Turns]) rfl
    have h25:=fun W=>impl_turn s.e 25 25 W (by simp[Turns]) rfl
    have h2:=fun W=>impl_turn s.a 2 2 W (by simp[Turns]) rfl
    have h13:=fun W=>impl_turn s.a 13 13 W (by simp[Turns]) rfl
    have h22:=fun W=>impl_turn s.a 22 22 W (by simp[Turns]) rfl
    have hxo:=e_xor
    have had:=e_add
    have han:=e_and
    have hno:=e_notm
    have hadw:=e_addw
    have hr:Hid (rnd s k x=⟨_,_,_,_,_,_,_,_⟩):=rfl
    clear hk' hx' hgd hAw hT2 HF HC HST HRE hB2 HSS
    go_wp2
    go_quiet (first | (go_at_call_of 133 (Value.int .i64 6);exact Calls.quiet_of_same (h6 _)) | (go_at_call_of 133 (Value.int .i64 11);exact Calls.quiet_of_same (h11 _)) | (go_at_call_of 133 (Value.int .i64 25);exact Calls.quiet_of_same (h25 _)))
    go_wp2_with fail
    refine (h2 _).mono ?_
    rintro e' w5 ⟨rfl,rfl⟩
    go_wp2_with fail
    refine (h13 _).mono ?_
    rintro e' w5 ⟨rfl,rfl⟩
    go_wp2_with fail
    refine (h22 _).mono ?_
    rintro e' w5 ⟨rfl,rfl⟩
    go_wp2
    go_roundw
    case rel=>exact⟨n+1,rnd s k x,by omega,by go_num,HN,hsame.drewN _,rfl,rfl,rfl,rfl,rfl,rfl,rfl,rfl⟩
    case measure=>simp[intOf];omega
  · have hn64:n=64:=by omega
    subst hn64
    have HS2:Hid (Same W2 wr):=hsame
    have HFF:Hid (fin=plus s ⟨a,b,c,d,e,f,g,h⟩):=by rw[Hid,HF.out,HSS.out]
    have hsz:wr.heap.size=w1.heap.size+1:=by rw[hsame.heap];exact hs2
    clear hAw hT2 HF HC hsame HSS hm hl48
    have hst:Arr wr w.heap.size 133 (S8.l ⟨a,b,c,d,e,f,g,h⟩):=by unfold Arr;rw[HS2.out.heap];exact HST.out
    have hre:wr.heap[w.heap.size+1+1]? = some (.cells #[.int .u32 0,.int .u32 0,.int .u32 0,.int .u32 0,.int .u32 0,.int .u32 0,.int .u32 0,.int .u32 0] 133 (0,0)):=by rw[HS2.out.heap];exact HRE.out
    have hB3:=HS2.out.below hB2
    have A1:Hid (_∧_∧_):=⟨hst,hre,hB3⟩
    clear hst hre hB3 HST HRE HS2 hB2
    go_wp2
    go_loopw [20,113] (fun _ i wx=>∃ j:Nat,j≤8∧i=.int .i64 (j:Int)∧Arr wx (w1.heap.size+1) 133 (pl s ⟨a,b,c,d,e,f,g,h⟩ j)∧Arr wx w.heap.size 133 (S8.l ⟨a,b,c,d,e,f,g,h⟩)∧wx.heap[w.heap.size+1+1]? = some (.cells #[.int .u32 0,.int .u32 0,.int .u32 0,.int .u32 0,.int .u32 0,.int .u32 0,.int .u32 0,.int .u32 0] 133 (0,0))∧Below w.heap.size w wx) (fun _ i _=>8 - (intOf i).toNat)
    case atStart =>
     refine⟨0,by omega,rfl,?_,?_,?_,?_⟩
     · rw[pl_zero];exact heap_alloc_at _ _ _ hsz
     · exact A1.out.1.kept (Below.heap_alloc _ _ _ (by omega))
     · exact (Below.heap_alloc _ _ _ (by omega)).trans A1.out.2.1
     · exact A1.out.2.2.alloc (by omega) _
    case round =>
     obtain⟨j,hj,rfl,hAj,hAs,hre,hbel⟩:=hrel
     clear A1
     by_cases hlt:j<8
     · have c1:=hAj.cell j (by rw[pl_length];exact hlt)
       rw[pl_at s _ j hlt] at c1
       have c2:=hAs.cell j (by simp[S8.l];exact hlt)
       rw[s8_at _ j hlt] at c2
       have f1:=hAj.free j
       have HP:Hid (Arr (wr.setCell ⟨w1.heap.size+1,j,none⟩ (.int .u32 (num (ad (s.l.getD j 0) (S8.l ⟨a,b,c,d,e,f,g,h⟩ |>.getD j 0))))) (w1.heap.size+1) 133 (pl s ⟨a,b,c,d,e,f,g,h⟩ (j+1))):=by
        have:=hAj.set j (ad (s.l.getD j 0) (S8.l ⟨a,b,c,d,e,f,g,h⟩ |>.getD j 0))
        rw[pl_step s _ j hlt] at this
        exact this
       obtain⟨x,hx⟩:∃ x,x=s.l.getD j 0:=⟨_,rfl⟩
       obtain⟨y,hy⟩:∃ y,y=(S8.l ⟨a,b,c,d,e,f,g,h⟩ |>.getD j 0):=⟨_,rfl⟩
       rw[←hx,←hy] at HP
       rw[←hx] at c1
       rw[←hy] at c2
       have hj8:(j:Int)<8:=by omega
       have had:=e_add x y
       have hadw:=e_addw x y
       have B1:Hid (_∧_∧_):=⟨hAs,hre,hbel⟩
       clear hx hy hAj hAs hre hbel
       go_wp2
       go_region
       go_wp2
       go_roundw
       case rel=>exact⟨j+1,by omega,by go_num,by have:=HP.out;exact this.kept rfl,B1.out.1.kept (heap_setCell_other wr _ _ _ (by simp;omega)),(heap_setCell_other wr _ _ _ (by simp;omega)).trans B1.out.2.1,⟨B1.out.2.2.os,B1.out.2.2.tape,B1.out.2.2.output,by have:=B1.out.2.2.size;simpa [World.setCell] using this,fun i hi=>(heap_setCell_other wr _ i _ (by simp;omega)).trans (B1.out.2.2.block i hi)⟩⟩
       case measure=>simp[intOf];omega
     · have hj8:j=8:=by omega
       subst hj8
       rw[pl_all,←HFF.out] at hAj
       have hA':wr.heap[w1.heap.size+1]? = some (.cells cf 133 (0,0)):=by rw[HCF.out];exact hAj
       have hz8:cf.size=8:=by rw[HCF.out];rfl
       have h18:cf.all (·.oneCell')=true:=by rw[HCF.out];exact wcells_one _
       have hsz8:(Tryz.prog.info? 133).map (·.size)=some cf.size:=by rw[hz8];exact size8
       have hbW:=below_setRow hbel (show w.heap.size≤w.heap.size+1+1 by omega) cf
       have hW:=setRow_heap wr (w.heap.size+1+1) _ cf 133 (0,0) hre
       clear hAj hAs
       go_wp2_with (first | refine wpList_load_row rfl 133 _ rfl (w1.heap.size+1) rfl 133 cf (0,0) _ hA' Tryz.underlying133 rfl hsz8 ?_ | refine wpList_store_row rfl 133 _ _ rfl (w.heap.size+1+1) cf rfl rfl 133 _ hre hsz8 hz8.symm h18 ?_)
       exact bodyPost_ret (v:=.agg cf) (results_cell_row rfl _ _ (w.heap.size+1+1) 133 _ (0,0) _ rfl hW Tryz.underlying133 rfl hsz8) rfl ⟨rfl,hbW⟩
end Go.Proofs.YtahocpjieffbaaaGreatDoor
