import Derived.Test.YtkagiehbjnfabaaDoorIChain
namespace Go.Proofs.YtkagiehbjnfabaaDoor
open Go.RowKit
set_option linter.unusedVariables false
set_option maxRecDepth 100000 in
theorem climber_any (c h:Nat) (x:List UInt8) (w:World) :
 Calls Tryd.prog 78 #[.string ⟨x.toArray⟩,.int .i64 (c:Int),.int .i64 (h:Int)] w fun e w'=>e=.returned (.func (.func 87) #[] #[.pointer (some ⟨w.heap.size+1,0,none⟩),.pointer (some ⟨w.heap.size+2,0,none⟩),.pointer (some ⟨w.heap.size,0,none⟩)])∧w'.heap[w.heap.size]? = some (.cells #[.string ⟨x.toArray⟩] 9 (0,0))∧w'.heap[w.heap.size+1]? = some (.cells #[.int .i64 (c:Int)] 2 (0,0))∧w'.heap[w.heap.size+2]? = some (.cells #[.int .i64 (h:Int)] 2 (0,0))∧Below w.heap.size w w':=by
 have hmf:∀ (fn:Fn) (first cap:Array Value) (w:World),(Instr.makeFunc fn first cap).run Tryd.prog w=.ok (.func fn first cap) w:=fun _ _ _ _=>rfl
 go_enter Tryd.func78,Tryd.ntmps78
 go_wp2
 go_ret
 have a1:=heap_alloc_new w (.cells #[.string ⟨x.toArray⟩] 9)
 have a2:=heap_alloc_new (w.alloc (.cells #[.string ⟨x.toArray⟩] 9)) (.cells #[.int .i64 (c:Int)] 2)
 have a3:=heap_alloc_new ((w.alloc (.cells #[.string ⟨x.toArray⟩] 9)).alloc (.cells #[.int .i64 (c:Int)] 2)) (.cells #[.int .i64 (h:Int)] 2)
 have e1:(w.alloc (.cells #[.string ⟨x.toArray⟩] 9)).heap.size=w.heap.size+1:=by simp
 have e2:((w.alloc (.cells #[.string ⟨x.toArray⟩] 9)).alloc (.cells #[.int .i64 (c:Int)] 2)).heap.size=w.heap.size+2:=by simp
 rw[e1] at a2
 rw[e2] at a3
 refine⟨by simp,?_,?_,a3,(((Below.refl _ _).alloc (Nat.le_refl _) _).alloc (by rw[e1];omega) _).alloc (by rw[e2];omega) _⟩
 · rw[Below.heap_alloc _ _ _ (by rw[e2];omega),Below.heap_alloc _ _ _ (by rw[e1];omega)];exact a1
 · rw[Below.heap_alloc _ _ _ (by rw[e2];omega)];exact a2
set_option maxRecDepth 100000 in
set_option maxHeartbeats 400000 in
theorem climbed_any (c f t:Nat) (x:List UInt8) (w:World) (hc:c<256) (hf:f≤t) (ht:t≤3) (hx:x.length=32) (hT:Tab w) :
 Calls Tryd.prog 64 #[.string ⟨x.toArray⟩,.int .i64 (c:Int),.int .i64 (f:Int),.int .i64 (t:Int)] w fun e w'=>e=.returned (.string ⟨(chainL c f x (t - f)).toArray⟩)∧Below w.heap.size w w':=by
 have HT:Hid (Tab w):=hT
 have H1:=climber_any c f x w
 have HX:Hid (∀ k,(chainL c f x k).length=32):=chainL_len c f x hx
 have HZ:Hid (chainL c f x 0=x):=rfl
 have HS:Hid (∀ k,chainL c f x (k+1)=tagL tChain [byteL c,byteL (f+k),chainL c f x k]):=fun k=>rfl
 clear hT
 go_enter Tryd.func64,Tryd.ntmps64
 go_wp2_with fail
 refine H1.mono ?_
 rintro e w1 ⟨rfl,i1,i2,i3,b1⟩
 clear H1
 go_wp2
 go_loopw [0,17] (fun v i wr=>∃ k:Nat,∃ y:List UInt8,k≤t - f∧i=.int .i64 (k:Int)∧v=.string ⟨y.toArray⟩∧Hid (y=chainL c f x k)∧Hid (wr.heap[w.heap.size]? = some (.cells #[.string ⟨y.toArray⟩] 9 (0,0))∧wr.heap[w.heap.size+1]? = some (.cells #[.int .i64 (c:Int)] 2 (0,0))∧wr.heap[w.heap.size+2]? = some (.cells #[.int .i64 ((f+k:Nat):Int)] 2 (0,0)))∧Below w.heap.size w wr) (fun _ i _=>t - f - (intOf i).toNat)
 case atStart=>exact⟨0,x,Nat.zero_le _,rfl,rfl,HZ.out.symm,⟨i1,i2,i3⟩,b1⟩
 case round =>
  obtain⟨k,y,hk,rfl,rfl,HY,HI,hbel⟩:=hrel
  have hsz:=hbel.size
  clear i1 i2 i3 b1
  by_cases hlt:k<t - f
  · have hlt':(k:Int)<(t:Int) - (f:Int):=by omega
    have H2:=step_any c (f+k) y (w.heap.size+1) (w.heap.size+2) w.heap.size w.heap.size wr hc (by omega) (by rw[HY.out,HX.out];omega) (HT.out.later hbel) HI.out.2.1 HI.out.2.2 HI.out.1 (by omega) (Nat.le_refl _) (by omega) (by omega) (by omega)
    have HN:Hid (tagL tChain [byteL c,byteL (f+k),y]=chainL c f x (k+1)):=by rw[Hid,HS.out,←HY.out]
    obtain⟨z,hz⟩:∃ z,z=tagL tChain [byteL c,byteL (f+k),y]:=⟨_,rfl⟩
    rw[←hz] at H2 HN
    clear hz HI HY
    go_wp2_with fail
    refine H2.mono ?_
    rintro e w2 ⟨rfl,j2,j3,j1,b2⟩
    have HI:Hid (w2.heap[w.heap.size]? = some (.cells #[.string ⟨z.toArray⟩] 9 (0,0))∧w2.heap[w.heap.size+1]? = some (.cells #[.int .i64 (c:Int)] 2 (0,0))∧w2.heap[w.heap.size+2]? = some (.cells #[.int .i64 ((f+(k+1):Nat):Int)] 2 (0,0))):=⟨j1,j2,j3⟩
    have hbel2:=hbel.trans b2
    clear H2 j1 j2 j3 b2 hbel
    go_wp2
    go_roundw
    case rel=>exact⟨k+1,z,by omega,by go_num,rfl,HN,HI,hbel2⟩
    case measure=>simp[intOf];omega
  · have hlt':¬ (k:Int)<(t:Int) - (f:Int):=by omega
    have hkt:k=t - f:=by omega
    subst hkt
    clear HI
    go_wp2
    go_ret
    exact⟨by rw[HY.out];rfl,hbel⟩
def chainOk (s:List UInt8) (c f n:Int):Prop:=s.length=32∧0≤c∧c≤18∧0≤f∧f≤3∧0≤n∧n≤3 - f
end Go.Proofs.YtkagiehbjnfabaaDoor
