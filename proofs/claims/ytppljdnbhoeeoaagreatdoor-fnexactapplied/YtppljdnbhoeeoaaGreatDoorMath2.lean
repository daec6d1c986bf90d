/-
 Texts that are laid as one: Base, Word, MathSum, MathTag, MathWord, MathOnce, MathLev, MathDig.
-/
import Derived.Test.YtppljdnbhoeeoaaGreatDoorRows
import Derived.Test.YtppljdnbhoeeoaaGreatDoorMathAll
namespace Go.Proofs.YtppljdnbhoeeoaaGreatDoor
open Go.RowKit
set_option linter.unusedVariables false
theorem info5:(Tryz.prog.info? 5).map (fun i=>(i.zero,i.size,i.bytes))=some (some (.int .u8 0),1,1):=by kernel_rfl
theorem zcv (l:List UInt8) (cs:Array Value) (hc:cs.toList=ze l) (n:Nat) (hn:l.length=n) (hm:n≤maxLen) (W:World) :
 (convert 150 9 (.slice (some ⟨W.heap.size,0,none⟩) n n)).run Tryz.prog (W.alloc (.cells cs 5))=.ok (.string ⟨l.toArray⟩) (W.alloc (.cells cs 5)):=by
 have hsz:cs.size=n*1:=by rw[←Array.length_toList,hc,ze6];omega
 have:=World.ownsRow_lit (base:=0) (e:=5) (size:=1) W cs n (Nat.zero_le _) hm hsz
 rw[hc] at this
 exact zd6 Tryz.underlying150 Tryz.underlying5 Tryz.underlying9 this
theorem zxl (l:List UInt8) (cs:Array Value) (hc:cs.toList=ze l) (n:Nat) (hn:l.length=n) (hm:n≤maxLen) (W:World) :
 (convert 150 9 (.slice (some ⟨W.heap.size,0,none⟩) n n)).run Tryz.prog (W.alloc (.cells cs 5)).drew=.ok (.string ⟨l.toArray⟩) (W.alloc (.cells cs 5)).drew:=by
 have hsz:cs.size=n*1:=by rw[←Array.length_toList,hc,ze6];omega
 have:=(World.ownsRow_lit (base:=0) (e:=5) (size:=1) W cs n (Nat.zero_le _) hm hsz).drew
 rw[hc] at this
 exact zd6 Tryz.underlying150 Tryz.underlying5 Tryz.underlying9 this
def num (a:UInt32):Int:=(a.toNat:Int)
def ad (a b:UInt32):UInt32:=a+b
def xo (a b:UInt32):UInt32:=a ^^^ b
def an (a b:UInt32):UInt32:=a &&& b
def no (a:UInt32):UInt32:=UInt32.ofNat (4294967295 ^^^ a.toNat)
def sr (a:UInt32) (n:Nat):UInt32:=UInt32.ofNat (a.toNat / 2 ^ n)
def rr (a:UInt32) (n:Nat):UInt32:=UInt32.ofNat (a.toNat / 2 ^ n ||| a.toNat*2 ^ (32 - n) % 4294967296)
theorem zg8 (n:Nat) (h:n<4294967296):num (UInt32.ofNat n)=(n:Int):=by unfold num;rw[UInt32.toNat_ofNat'];congr 1;exact Nat.mod_eq_of_lt (by simpa using h)
theorem zej (a b:UInt32):(num a+num b) % 4294967296=num (ad a b):=by
 unfold num ad;rw[UInt32.toNat_add];omega
theorem zg9 (a b:UInt32):IntKind.u32.wrap (num a+num b)=num (ad a b):=by
 rw[IntKind.wrap_u32',zej]
theorem zhk (a b:UInt32):bits .xor .u32 (num a) (num b)=num (xo a b):=by
 unfold num xo;rw[u32_xor_nat _ _ a.toNat_lt b.toNat_lt,UInt32.toNat_xor]
theorem zoq (a b:UInt32):bits .and .u32 (num a) (num b)=num (an a b):=by
 unfold num an;rw[u32_and_nat _ _ a.toNat_lt b.toNat_lt,UInt32.toNat_and]
theorem zor (a:UInt32):bits .xor .u32 4294967295 (num a)=num (no a):=by
 have ha:=a.toNat_lt
 have h1:bits .xor .u32 ((4294967295:Nat):Int) (num a)=((4294967295 ^^^ a.toNat:Nat):Int):=u32_xor_nat _ _ (by omega) ha
 have h2:4294967295 ^^^ a.toNat<4294967296:=by
  have:=Nat.xor_lt_two_pow (x:=4294967295) (y:=a.toNat) (n:=32) (by omega) (by simpa using ha)
  simpa using this
 rw[no,zg8 _ h2]
 exact h1
theorem zos (a:UInt32):bits .xor .u32 IntKind.u32.max (num a)=num (no a):=zor a
theorem zxm (a:UInt32):bits .xor .u32 (if IntKind.u32.signed=true then -1 else IntKind.u32.max) (num a)=num (no a):=zor a
theorem zhl (a:UInt32) (n:Nat) (p:Int) (hp:p=((2 ^ n:Nat):Int)):num a / p=num (sr a n):=by
 have ha:=a.toNat_lt
 subst hp
 rw[sr,zg8 _ (Nat.lt_of_le_of_lt (Nat.div_le_self _ _) ha)]
 unfold num
 rw[Int.natCast_ediv]
theorem zbe (a:UInt32) (n:Nat) (p q:Int) (hp:p=((2 ^ n:Nat):Int)) (hq:q=((2 ^ (32 - n):Nat):Int)):bits .or .u32 (num a / p) (num a*q % 4294967296)=num (rr a n)∧bits .or .u32 (num a*q % 4294967296) (num a / p)=num (rr a n):=by
 have ha:=a.toNat_lt
 subst hp hq
 have h1:a.toNat / 2 ^ n<4294967296:=Nat.lt_of_le_of_lt (Nat.div_le_self _ _) ha
 have h2:a.toNat*2 ^ (32 - n) % 4294967296<4294967296:=Nat.mod_lt _ (by omega)
 have e1:num a / ((2 ^ n:Nat):Int)=((a.toNat / 2 ^ n:Nat):Int):=by unfold num;rw[Int.natCast_ediv]
 have e2:num a*((2 ^ (32 - n):Nat):Int) % 4294967296=((a.toNat*2 ^ (32 - n) % 4294967296:Nat):Int):=by unfold num;rw[Int.natCast_emod,Int.natCast_mul];rfl
 have h3:a.toNat / 2 ^ n ||| a.toNat*2 ^ (32 - n) % 4294967296<4294967296:=by
  have:=Nat.or_lt_two_pow (n:=32) (by simpa using h1) (by simpa using h2)
  simpa using this
 rw[e1,e2,rr,zg8 _ h3]
 exact⟨u32_or_nat _ _ h1 h2,by rw[u32_or_nat _ _ h2 h1,Nat.or_comm]⟩
def ap (x:UInt32) (b:UInt8):UInt32:=UInt32.ofNat (x.toNat*256 % 4294967296 ||| b.toNat)
theorem e_ap (x:UInt32) (b:UInt8):bits .or .u32 (num x*256 % 4294967296) (b.toNat:Int)=num (ap x b):=by
 have hb:=b.toNat_lt
 have h1:x.toNat*256 % 4294967296<4294967296:=Nat.mod_lt _ (by omega)
 have h3:x.toNat*256 % 4294967296 ||| b.toNat<4294967296:=by
  have:=Nat.or_lt_two_pow (n:=32) (by simpa using h1) (show b.toNat<2 ^ 32 by omega)
  simpa using this
 have e2:num x*256 % 4294967296=((x.toNat*256 % 4294967296:Nat):Int):=by unfold num;omega
 rw[e2,ap,zg8 _ h3]
 exact u32_or_nat _ _ h1 (by omega)
def zv (ws:List UInt32):List Value:=ws.map fun x=>.int .u32 (num x)
theorem zfb (ws:List UInt32):(zv ws).length=ws.length:=by simp[zv]
theorem zxn (ws:List UInt32) (j:Nat) (h:j<ws.length):(zv ws)[j]? = some (.int .u32 (num ws[j])):=by simp[zv,h]
theorem zxo (ws:List UInt32) (j:Nat) (x:UInt32):(zv ws).set j (.int .u32 (num x))=zv (ws.set j x):=by simp[zv,List.map_set]
theorem ze5 (ws:List UInt32):(zv ws).toArray.all (·.oneCell')=true:=by
 rw[Array.all_eq_true_iff_forall_mem]
 intro v hv
 simp only[zv,List.mem_toArray,List.mem_map] at hv
 obtain⟨x,_,rfl⟩:=hv
 rfl
theorem zxp (ws:List UInt32):∀ v∈zv ws,v.oneCell'=true:=by
 intro v hv
 simp only[zv,List.mem_map] at hv
 obtain⟨x,_,rfl⟩:=hv
 rfl
theorem zxq:num 0=0:=rfl
def Arr (w:World) (b t:Nat) (ws:List UInt32):Prop:=w.heap[b]? = some (.cells (zv ws).toArray t (0,0))
theorem Arr.cell {w:World} {b t:Nat} {ws:List UInt32} (h:Arr w b t ws) (j:Nat) (hj:j<ws.length):w.cell? ⟨b,j,none⟩=some (.int .u32 (num ws[j])):=by
 rw[cell_of_row w b j _ t _ h,List.getElem?_toArray,zxn ws j hj]
theorem Arr.free {w:World} {b t:Nat} {ws:List UInt32} (h:Arr w b t ws) (j:Nat):w.frozen? ⟨b,j,none⟩=false:=frozen_of_row w b j _ t h
theorem Arr.lt {w:World} {b t:Nat} {ws:List UInt32} (h:Arr w b t ws):b<w.heap.size:=(Array.getElem?_eq_some_iff.1 h).1
theorem Arr.set {w:World} {b t:Nat} {ws:List UInt32} (h:Arr w b t ws) (j:Nat) (x:UInt32):Arr (w.setCell ⟨b,j,none⟩ (.int .u32 (num x))) b t (ws.set j x):=by
 unfold Arr
 rw[heap_setCell_same w b j _ t _ h,List.setIfInBounds_toArray,zxo]
theorem Arr.kept {w w':World} {b t:Nat} {ws:List UInt32} (h:Arr w b t ws) (hb:w'.heap[b]? = w.heap[b]?):Arr w' b t ws:=hb.trans h
structure Laid (w:World) (g t:Nat) (cs:Array Value) (W:World):Prop where
 row:W.heap[g]? = some (.cells cs t (0,0))
 other:∀ k,k≠g→W.heap[k]? = w.heap[k]?
 size:W.heap.size=w.heap.size
 os:W.os=w.os
 tape:W.tape=w.tape
 output:W.output=w.output
theorem Laid.below {w w0 W:World} {g t B:Nat} {cs:Array Value} (h:Laid w g t cs W) (hb:Below B w0 w) (hg:B≤g):Below B w0 W :=
 ⟨h.os.trans hb.os,h.tape.trans hb.tape,h.output.trans hb.output,by rw[h.size];exact hb.size,fun k hk=>by rw[h.other k (by omega)];exact hb.block k hk⟩
theorem zxr {P:Program} {ops:Array Oper} {rest:List Oper} {o:Oper} {a:Act} {w:World} {Q:Exit→Act→World→Prop} (hgd:o.guard=none) (ty:TypeId) (x y:Operand) (ho:o.op=.store ty x y)
 (g:Nat) (cells:Array Value) (hx:a.eval x=.pointer (some ⟨g,0,none⟩)) (hy:a.eval y=.agg cells)
 (t:TypeId) (old:Array Value) (hg:w.heap[g]? = some (.cells old t (0,0))) (hi:(P.info? ty).map (·.size)=some cells.size)
 (hold:old.size=cells.size) (h1:cells.all (·.oneCell')=true)
 (h:∀ W,Laid w g t cells W→wpList P ops Q rest (a.put o.dst undef) W):wpList P ops Q (o :: rest) a w :=
 wpList_store_row hgd ty x y ho g cells hx hy t old hg hi hold h1 (h _ ⟨setRow_heap w g old cells t _ hg,fun k hk=>setRow_other w g k cells hk,setRow_size w g cells,rfl,rfl,rfl⟩)
def bw (l:List UInt8) (j t:Nat):UInt32:=(((l.take j).drop (4*t)).take 4).foldl ap 0
def bws (l:List UInt8) (j:Nat):List UInt32:=(List.range 16).map (bw l j)
theorem zfc (l:List UInt8) (j:Nat):(bws l j).length=16:=by simp[bws]
theorem zxs (l:List UInt8):bws l 0=List.replicate 16 0:=by
 simp[bws,bw,List.range,List.range.loop,List.replicate]
theorem zxt (l:List UInt8) (j t:Nat) (h:t<16):(bws l j)[t]'(by rw[zfc];exact h)=bw l j t:=by simp[bws]
theorem zxu (l:List UInt8) (j t:Nat) (h:t≠j / 4):bw l (j+1) t=bw l j t:=by
 unfold bw
 congr 1
 rcases Nat.lt_or_ge t (j / 4) with h1 | h1
 · apply List.ext_getElem?
   intro i
   simp only[List.getElem?_take,List.getElem?_drop]
   by_cases hi:i<4
   · rw[if_pos hi,if_pos hi,if_pos (by omega),if_pos (by omega)]
   · rw[if_neg hi,if_neg hi]
 · rw[List.drop_eq_nil_of_le (by simp;omega),List.drop_eq_nil_of_le (by simp;omega)]
theorem zxv (l:List UInt8) (j:Nat) (h:j<l.length):bw l (j+1) (j / 4)=ap (bw l j (j / 4)) l[j]:=by
 unfold bw
 have e:(((l.take (j+1)).drop (4*(j / 4))).take 4)=(((l.take j).drop (4*(j / 4))).take 4) ++ [l[j]]:=by
  have hl:((l.take j).drop (4*(j / 4))).length+1≤4:=by simp;omega
  rw[List.take_succ_eq_append_getElem h,List.drop_append_of_le_length (by simp;omega)]
  generalize (l.take j).drop (4*(j / 4))=d at hl ⊢
  rw[List.take_of_length_le (by simpa using hl),List.take_of_length_le (by omega)]
 rw[e,List.foldl_append]
 rfl
theorem zxw (l:List UInt8) (j:Nat) (h:j<l.length) (hj:j<64):(bws l j).set (j / 4) (ap (bw l j (j / 4)) l[j])=bws l (j+1):=by
 apply List.ext_getElem?
 intro i
 rw[List.getElem?_set]
 by_cases hi:j / 4=i
 · subst hi
   rw[if_pos rfl,if_pos (by rw[zfc];omega)]
   simp only[bws,List.getElem?_map]
   rw[List.getElem?_range (by omega)]
   simp[zxv l j h]
 · rw[if_neg hi]
   simp only[bws,List.getElem?_map]
   by_cases h16:i<16
   · rw[List.getElem?_range h16]
     simp[zxu l j i (fun e=>hi e.symm)]
   · simp[h16]
def s0 (x:UInt32):UInt32:=xo (xo (rr x 7) (rr x 18)) (sr x 3)
def s1 (x:UInt32):UInt32:=xo (xo (rr x 17) (rr x 19)) (sr x 10)
def nxt (ws:List UInt32):UInt32:=ad (ad (ad (ws.getD (ws.length - 16) 0) (s0 (ws.getD (ws.length - 15) 0))) (ws.getD (ws.length - 7) 0)) (s1 (ws.getD (ws.length - 2) 0))
def sch (m:List UInt32):Nat→List UInt32
 | 0=>m
 | k+1=>sch m k ++ [nxt (sch m k)]
theorem zfd (m:List UInt32) (k:Nat):(sch m k).length=m.length+k:=by
 induction k with
 | zero=>rfl
 | succ k ih=>simp[sch,ih];omega
def part (ws:List UInt32) (n:Nat):List UInt32:=ws ++ List.replicate (n - ws.length) 0
theorem zga (ws:List UInt32) (n:Nat) (h:ws.length≤n):(part ws n).length=n:=by simp[part];omega
theorem zxx (ws:List UInt32) (n i:Nat) (h:i<ws.length) (h2:i<(part ws n).length):(part ws n)[i]=ws.getD i 0:=by
 simp[part,List.getElem_append_left h,h]
theorem zot (ws:List UInt32) (n:Nat) (x:UInt32) (h:ws.length<n):(part ws n).set ws.length x=part (ws ++ [x]) n:=by
 unfold part
 rw[List.set_append_right _ _ (Nat.le_refl _),Nat.sub_self]
 obtain⟨k,hk⟩:∃ k,n - ws.length=k+1:=⟨n - ws.length - 1,by omega⟩
 have hk2:n - (ws ++ [x]).length=k:=by simp;omega
 rw[hk,hk2,List.replicate_succ]
 simp
theorem zou (ws:List UInt32) (n:Nat) (h:ws.length=n):part ws n=ws:=by simp[part,h]
theorem zgb {w:World} {b t:Nat} {ws:List UInt32} {n:Nat} (h:Arr w b t (part ws n)) (i:Nat) (hi:i<ws.length) (hn:ws.length≤n):w.cell? ⟨b,i,none⟩=some (.int .u32 (num (ws.getD i 0))):=by
 have h2:i<(part ws n).length:=by rw[zga ws n hn];omega
 rw[h.cell i h2,zxx ws n i hi h2]
def kL:List UInt32:=[1116352408,1899447441,3049323471,3921009573,961987163,1508970993,2453635748,2870763221,3624381080,310598401,607225278,1426881987,1925078388,2162078206,2614888103,3248222580,3835390401,4022224774,264347078,604807628,770255983,1249150122,1555081692,1996064986,2554220882,2821834349,2952996808,3210313671,3336571891,3584528711,113926993,338241895,666307205,773529912,1294757372,1396182291,1695183700,1986661051,2177026350,2456956037,2730485921,2820302411,3259730800,3345764771,3516065817,3600352804,4094571909,275423344,430227734,506948616,659060556,883997877,958139571,1322822218,1537002063,1747873779,1955562222,2024104815,2227730452,2361852424,2428436474,2756734187,3204031479,3329325298]
structure S8 where
 a:UInt32
 b:UInt32
 c:UInt32
 d:UInt32
 e:UInt32
 f:UInt32
 g:UInt32
 h:UInt32
def S8.l (s:S8):List UInt32:=[s.a,s.b,s.c,s.d,s.e,s.f,s.g,s.h]
def t1 (s:S8) (k w:UInt32):UInt32:=ad (ad (ad (ad s.h (xo (xo (rr s.e 6) (rr s.e 11)) (rr s.e 25))) (xo (an s.e s.f) (an (no s.e) s.g))) k) w
def t2 (s:S8):UInt32:=ad (xo (xo (rr s.a 2) (rr s.a 13)) (rr s.a 22)) (xo (xo (an s.a s.b) (an s.a s.c)) (an s.b s.c))
def rnd (s:S8) (k w:UInt32):S8:=⟨ad (t1 s k w) (t2 s),s.a,s.b,s.c,ad s.d (t1 s k w),s.e,s.f,s.g⟩
def rnds (ks ws:List UInt32) (s:S8):Nat→S8
 | 0=>s
 | n+1=>rnd (rnds ks ws s n) (ks.getD n 0) (ws.getD n 0)
def plus (r s:S8):S8:=⟨ad r.a s.a,ad r.b s.b,ad r.c s.c,ad r.d s.d,ad r.e s.e,ad r.f s.f,ad r.g s.g,ad r.h s.h⟩
def mix (s:S8) (m:List UInt32):S8:=plus (rnds kL (sch m 48) s 64) s
def pl (r s:S8) (j:Nat):List UInt32:=(List.range 8).map fun i=>if i<j then ad (r.l.getD i 0) (s.l.getD i 0) else r.l.getD i 0
theorem zjx (r s:S8) (j:Nat):(pl r s j).length=8:=by simp[pl]
theorem zxy (r s:S8):pl r s 0=r.l:=rfl
theorem zxz (r s:S8):pl r s 8=(plus r s).l:=rfl
theorem zy0 (r s:S8) (j:Nat) (h:j<8):(pl r s j)[j]'(by rw[zjx];exact h)=r.l.getD j 0:=by simp[pl]
theorem zy1 (r s:S8) (j:Nat) (h:j<8):(pl r s j).set j (ad (r.l.getD j 0) (s.l.getD j 0))=pl r s (j+1):=by
 apply List.ext_getElem?
 intro i
 rw[List.getElem?_set]
 by_cases hi:j=i
 · subst hi
   rw[if_pos rfl,if_pos (by rw[zjx];exact h)]
   simp only[pl,List.getElem?_map]
   rw[List.getElem?_range h]
   simp
 · rw[if_neg hi]
   simp only[pl,List.getElem?_map]
   by_cases h8:i<8
   · rw[List.getElem?_range h8]
     simp[show (i<j+1)=(i<j) by simp;omega]
   · simp[h8]
theorem zhm (s:S8) (j:Nat) (h:j<8):s.l[j]'(by simp[S8.l];exact h)=s.l.getD j 0:=by simp[S8.l,List.getD,h]
def bl (l:List UInt8):List UInt32:=bws l 64
def stAt (s:S8) (l:List UInt8):Nat→S8
 | 0=>s
 | j+1=>mix (stAt s l j) (bl ((l.drop (64*j)).take 64))
theorem zy2 (s:S8) (a b:List UInt8) (j:Nat) (h:64*j≤a.length):stAt s (a ++ b) j=stAt s a j:=by
 induction j with
 | zero=>rfl
 | succ j ih =>
   rw[stAt,stAt,ih (by omega)]
   congr 2
   rw[List.drop_append_of_le_length (by omega),List.take_append_of_le_length (by simp;omega)]
theorem zy3 (s:S8) (a b:List UInt8) (m j:Nat) (h:a.length=64*m):stAt s (a ++ b) (m+j)=stAt (stAt s a m) b j:=by
 induction j with
 | zero=>exact zy2 s a b m (by omega)
 | succ j ih =>
   rw[←Nat.add_assoc,stAt,stAt,ih]
   congr 2
   have:64*(m+j)=a.length+64*j:=by omega
   rw[this,List.drop_append,List.drop_eq_nil_of_le (by omega)]
   simp
theorem zy4 (l:List UInt8) (i n:Nat) (h:i+n≤l.length):(ByteArray.mk l.toArray).extract i (i+n)=⟨((l.drop i).take n).toArray⟩:=by
 apply ByteArray.ext
 simp[ByteArray.extract,ByteArray.copySlice]
theorem zjy {P:Program} (W:World) (g t:Nat) (old cs:Array Value) (hg:W.heap[g]? = some (.cells old t (0,0))) (ho:old.size=cs.size) (h1:cs.all (·.oneCell')=true) :
 (storeCells ⟨g,0,none⟩ cs.toList 0).run P W=.ok () (W.setRow g cs):=by
 have:=run_storeCells_from (P:=P) g t cs.toList 0 old W hg (by simp;omega) (fun v hv=>(Array.all_eq_true_iff_forall_mem.1 h1) v (by simpa using hv))
 simpa using this
def padZ (k:Nat):Nat:=(119 - k % 64) % 64
theorem zjz (k:Nat):padZ k<64:=Nat.mod_lt _ (by omega)
theorem zov (k z:Nat) (h:z<padZ k):(k+1+z) % 64≠56:=by unfold padZ at h;omega
theorem zk0 (k:Nat):(k+1+padZ k) % 64=56:=by unfold padZ;omega
theorem zy5 (a b:Nat) (h:a % 64=0):padZ (a+b)=padZ b:=by unfold padZ;omega
def padB (l:List UInt8) (n:Nat):List UInt8:=l ++ (128 :: List.replicate (padZ l.length) 0) ++ bigB (8*n) 8
theorem zow (l:List UInt8) (n:Nat):(padB l n).length=l.length+1+padZ l.length+8:=by simp[padB,zdt];omega
theorem zy6 (l:List UInt8) (n:Nat):(padB l n).length=64*((padB l n).length / 64):=by have:=zk0 l.length;rw[zow];omega
theorem zy7 (a b:List UInt8) (n:Nat) (h:a.length % 64=0):padB (a ++ b) n=a ++ padB b n:=by
 unfold padB;rw[List.length_append,zy5 _ _ h];simp
def wB (x:UInt32):List UInt8:=[UInt8.ofNat (x.toNat / 16777216),UInt8.ofNat (x.toNat / 65536),UInt8.ofNat (x.toNat / 256),UInt8.ofNat x.toNat]
def stT (s:S8):List UInt8:=(s.l.map wB).flatten
def zcw:S8:=⟨1779033703,3144134277,1013904242,2773480762,1359893119,2600822924,528734635,1541459225⟩
def sumL (l:List UInt8):List UInt8:=stT (stAt zcw (padB l l.length) ((padB l l.length).length / 64))
theorem zfe (x:UInt32) (p:Int) (n:Nat) (hp:p=(n:Int)):num x / p % 256=((UInt8.ofNat (x.toNat / n)).toNat:Int):=by
 subst hp;unfold num;rw[byte_of];omega
theorem zox (x:UInt32):num x % 256=((UInt8.ofNat x.toNat).toNat:Int):=by unfold num;rw[byte_of]
theorem zk1 (s:S8) (j:Nat) (h:j<8):((s.l.take (j+1)).map wB).flatten=((s.l.take j).map wB).flatten ++ wB (s.l.getD j 0):=by
 have hl:j<s.l.length:=by simpa [S8.l] using h
 rw[List.take_succ_eq_append_getElem hl,zhm s j h]
 simp
theorem zy8 (s:S8) (j:Nat) (h:j≤8):(((s.l.take j).map wB).flatten).length=4*j:=by
 induction j with
 | zero=>rfl
 | succ j ih=>rw[zk1 s j (by omega),List.length_append,ih (by omega)];simp[wB];omega
def zbf (ls:List (List UInt8)):List UInt8:=(ls.map zz).flatten
def za8 (ls:List (List UInt8)):List UInt8:=za9 (zbf ls) 192
theorem zy9 (ls:List (List UInt8)) (l:List UInt8):zbf (ls ++ [l])=zbf ls ++ zz l:=by simp[zbf]
theorem zya (ls:List (List UInt8)) (j:Nat) (h:j<ls.length):zbf (ls.take (j+1))=zbf (ls.take j) ++ zz ls[j]:=by
 rw[List.take_succ_eq_append_getElem h,zy9]
theorem zoy (ls:List (List UInt8)) (h:ls.flatten.length<65536):(zbf ls).length≤ls.flatten.length+3*ls.length:=by
 induction ls with
 | nil=>simp[zbf]
 | cons x r ih =>
   rw[List.flatten_cons,List.length_append] at h
   have h1:=ih (by omega)
   have h2:=zz5 x (by omega)
   have e:zbf (x :: r)=zz x ++ zbf r:=by simp[zbf]
   rw[e,List.length_append,List.flatten_cons,List.length_append,List.length_cons]
   omega
theorem zyb (ls:List (List UInt8)) (j:Nat) (h:ls.flatten.length<65536):(zbf (ls.take j)).length≤ls.flatten.length+3*ls.length:=by
 have h1:=zkj ls j
 have h2:=zoy (ls.take j) (by omega)
 have h3:(ls.take j).length≤ls.length:=by rw[List.length_take];omega
 omega
theorem zek (ls:List (List UInt8)) (h:ls.flatten.length≤30000) (hl:ls.length≤1001):(zbf ls).length≤33003∧(za8 ls).length≤33006:=by
 have h1:=zoy ls (by omega)
 have h2:=zpt (zbf ls) 192 (by omega)
 unfold za8
 omega
theorem zyc (x:List UInt8) (h:x.length≤60000):zaq (zz x)=true:=by
 have:=zpn x [] h
 rw[List.append_nil] at this
 exact zki _ _ _ this
theorem zyd (ls:List (List UInt8)) (h:ls.flatten.length≤30000) (hl:ls.length≤1001):zc1 (ls.map zz)=za8 ls:=by
 refine zhx _ (by have:=(zek ls h hl).1;unfold zbf at this;omega) ?_
 rw[List.all_eq_true]
 intro y hy
 simp only[List.mem_map] at hy
 obtain⟨x,hx,rfl⟩:=hy
 obtain⟨j,hj,rfl⟩:=List.getElem_of_mem hx
 have:=zen ls j hj
 exact zyc _ (by omega)
theorem zye (a b:List UInt32) (i:Nat) (h:i<a.length):(a ++ b).getD i 0=a.getD i 0:=by
 simp[List.getD,List.getElem?_append_left h]
theorem zde (m:List UInt32) (k i:Nat) (h:i<m.length+k):(sch m (k+1)).getD i 0=(sch m k).getD i 0:=by
 rw[sch];exact zye _ _ _ (by rw[zfd];exact h)
theorem zyf (m:List UInt32) (k i:Nat) (h:i<m.length):(sch m k).getD i 0=m.getD i 0:=by
 induction k with
 | zero=>rfl
 | succ k ih=>rw[zde m k i (by omega),ih]
theorem zyg (m:List UInt32) (k n:Nat) (hm:m.length=16) (h1:16≤n) (h2:n<16+k) :
 (sch m k).getD n 0=ad (ad (ad ((sch m k).getD (n - 16) 0) (s0 ((sch m k).getD (n - 15) 0))) ((sch m k).getD (n - 7) 0)) (s1 ((sch m k).getD (n - 2) 0)):=by
 induction k with
 | zero=>omega
 | succ k ih =>
   by_cases h:n<16+k
   · rw[zde m k n (by omega),zde m k (n - 16) (by omega),zde m k (n - 15) (by omega),zde m k (n - 7) (by omega),zde m k (n - 2) (by omega)]
     exact ih h
   · have hn:n=16+k:=by omega
     rw[zde m k (n - 16) (by omega),zde m k (n - 15) (by omega),zde m k (n - 7) (by omega),zde m k (n - 2) (by omega)]
     have hl:(sch m k).length=n:=by rw[zfd];omega
     have e1:(sch m (k+1)).getD n 0=nxt (sch m k):=by
      rw[sch,List.getD,List.getElem?_append_right (by omega)]
      simp[hl]
     rw[e1,nxt,hl]
theorem zd5 (a b:UInt32):ad a b=ad b a:=by unfold ad;exact UInt32.add_comm a b
theorem zoz (a b c:UInt32):ad (ad a b) c=ad a (ad b c):=by unfold ad;exact UInt32.add_assoc a b c
theorem zyh (p x q y:UInt32):ad (ad (ad y q) x) p=ad (ad (ad p x) q) y:=by
 rw[zd5 (ad (ad y q) x) p,zd5 (ad y q) x,←zoz,zd5 y q,←zoz]
theorem zyi (F:List UInt32) (n:Nat) (h:n<F.length):(part (F.take n) F.length).set n (F.getD n 0)=part (F.take (n+1)) F.length:=by
 have hl:(F.take n).length=n:=by rw[List.length_take];omega
 have:=zot (F.take n) F.length (F.getD n 0) (by omega)
 rw[hl] at this
 rw[this,List.take_succ_eq_append_getElem h]
 simp[List.getD,h]
theorem zyj (F:List UInt32) (n i:Nat) (h:i<n) (hn:n≤F.length):(F.take n).getD i 0=F.getD i 0:=by
 simp[List.getD,h]
theorem zhn {w:World} {b t:Nat} {F:List UInt32} {n:Nat} (h:Arr w b t (part (F.take n) F.length)) (i:Nat) (hi:i<n) (hn:n≤F.length):w.cell? ⟨b,i,none⟩=some (.int .u32 (num (F.getD i 0))):=by
 have hl:(F.take n).length=n:=by rw[List.length_take];omega
 rw[zgb h i (by omega) (by omega),zyj F n i hi hn]
def w4 (a b c d:UInt8):UInt32:=UInt32.ofNat (a.toNat*16777216+b.toNat*65536+c.toNat*256+d.toNat)
theorem zho (x:UInt32) (b:UInt8) (h:x.toNat<16777216):(ap x b).toNat=x.toNat*256+b.toNat:=by
 have hb:=b.toNat_lt
 have e:x.toNat*256 % 4294967296=x.toNat*256:=Nat.mod_eq_of_lt (by omega)
 rw[ap,e,nat_join 8 (x.toNat*256) b.toNat (by omega) (by omega),UInt32.toNat_ofNat']
 exact Nat.mod_eq_of_lt (by omega)
theorem zyk (a b c d:UInt8) : [a,b,c,d].foldl ap 0=w4 a b c d:=by
 have ha:=a.toNat_lt
 have hb:=b.toNat_lt
 have hc:=c.toNat_lt
 have hd:=d.toNat_lt
 simp only[List.foldl]
 have z:(0:UInt32).toNat=0:=rfl
 have h1:(ap 0 a).toNat=a.toNat:=by rw[zho 0 a (by rw[z];omega),z];omega
 have h2:(ap (ap 0 a) b).toNat=a.toNat*256+b.toNat:=by rw[zho _ b (by rw[h1];omega),h1]
 have h3:(ap (ap (ap 0 a) b) c).toNat=(a.toNat*256+b.toNat)*256+c.toNat:=by rw[zho _ c (by rw[h2];omega),h2]
 have h4:(ap (ap (ap (ap 0 a) b) c) d).toNat=((a.toNat*256+b.toNat)*256+c.toNat)*256+d.toNat:=by rw[zho _ d (by rw[h3];omega),h3]
 apply UInt32.toNat_inj.1
 rw[h4,w4,UInt32.toNat_ofNat',Nat.mod_eq_of_lt (by omega)]
 omega
theorem e_w4 (a b c d:UInt8):bits .or .u32 (bits .or .u32 (bits .or .u32 ((a.toNat:Int)*16777216) ((b.toNat:Int)*65536)) ((c.toNat:Int)*256)) (d.toNat:Int)=num (w4 a b c d):=by
 have ha:=a.toNat_lt
 have hb:=b.toNat_lt
 have hc:=c.toNat_lt
 have hd:=d.toNat_lt
 have e1:bits .or .u32 ((a.toNat:Int)*16777216) ((b.toNat:Int)*65536)=((a.toNat*16777216+b.toNat*65536:Nat):Int):=by
  have:=u32_or_nat (a.toNat*16777216) (b.toNat*65536) (by omega) (by omega)
  rw[nat_join 24 (a.toNat*16777216) (b.toNat*65536) (by omega) (by omega)] at this
  rw[←this];congr 1 <;> omega
 have e2:bits .or .u32 ((a.toNat*16777216+b.toNat*65536:Nat):Int) ((c.toNat:Int)*256)=((a.toNat*16777216+b.toNat*65536+c.toNat*256:Nat):Int):=by
  have:=u32_or_nat (a.toNat*16777216+b.toNat*65536) (c.toNat*256) (by omega) (by omega)
  rw[nat_join 16 (a.toNat*16777216+b.toNat*65536) (c.toNat*256) (by omega) (by omega)] at this
  rw[←this];congr 1
 have e3:bits .or .u32 ((a.toNat*16777216+b.toNat*65536+c.toNat*256:Nat):Int) (d.toNat:Int)=((a.toNat*16777216+b.toNat*65536+c.toNat*256+d.toNat:Nat):Int):=by
  have:=u32_or_nat (a.toNat*16777216+b.toNat*65536+c.toNat*256) d.toNat (by omega) (by omega)
  rw[nat_join 8 (a.toNat*16777216+b.toNat*65536+c.toNat*256) d.toNat (by omega) (by omega)] at this
  exact this
 rw[e1,e2,e3,w4,zg8 _ (by omega)]
theorem zyl (l:List UInt8) (hl:l.length=64) (t:Nat) (h:t<16):(bl l).getD t 0=w4 (l.getD (4*t) 0) (l.getD (4*t+1) 0) (l.getD (4*t+2) 0) (l.getD (4*t+3) 0):=by
 rw[←zyk]
 have e1:(bl l).getD t 0=bw l 64 t:=by simp[bl,bws,List.getD,h]
 rw[e1,bw]
 congr 1
 rw[List.take_of_length_le (l:=l) (by omega)]
 apply List.ext_getElem?
 intro i
 simp only[List.getElem?_take,List.getElem?_drop]
 match i with
 | 0=>simp[List.getD,show 4*t<l.length by omega]
 | 1=>simp[List.getD,show 4*t+1<l.length by omega]
 | 2=>simp[List.getD,show 4*t+2<l.length by omega]
 | 3=>simp[List.getD,show 4*t+3<l.length by omega]
 | i+4=>simp;omega
theorem zgc (l:List UInt8):(sumL l).length=32:=by
 have h:∀ s:S8,(stT s).length=32:=fun s=>by
  have:=zy8 s 8 (Nat.le_refl _)
  rw[List.take_of_length_le (by simp[S8.l])] at this
  exact this
 exact h _
end Go.Proofs.YtppljdnbhoeeoaaGreatDoor
