/-
 Texts that are laid as one: Math, MathPre, MathWrap, MathTake, MathTxt, MathBack, MathStrs, MathItems, MathList, MathRow, MathStep.
-/
import Derived.WalkSpells
import Derived.WalkLawsBesides
import Derived.Deep.RegionHeld3
import Derived.Deep.AppendLies
import Derived.Deep.Onto
import Derived.Lib.Join
import Derived.Deep.RegionLaw
namespace Go.Proofs.YtppljdnbhoeeoaaGreatDoor
open Go.RowKit
set_option linter.unusedVariables false
def ze (l:List UInt8):List Value:=l.map fun b=>.int .u8 (b.toNat:Int)
theorem ze6 (l:List UInt8):(ze l).length=l.length:=by simp[ze]
def nibs (l:List UInt8):List UInt8:=l.flatMap fun b=>[b / 16,b % 16]
theorem zds (l:List UInt8):(nibs l).length=2*l.length:=by
 induction l with
 | nil=>rfl
 | cons a l ih=>simp only[nibs,List.flatMap_cons,List.length_append,List.length_cons,List.length_nil] at ih ⊢;omega
theorem take_snoc (s:ByteArray) (k:Nat) (h:k<s.size):s.data.toList.take (k+1)=s.data.toList.take k ++ [s[k]]:=by
 rw[List.take_succ_eq_append_getElem (by simpa using h)];rfl
theorem zhp (s:ByteArray) (k:Nat) (h:¬ k<s.size):s.data.toList.take k=s.data.toList:=List.take_of_length_le (by simpa using Nat.le_of_not_lt h)
theorem zp0 (s:ByteArray) (k:Nat) (h:k<s.size):nibs (s.data.toList.take (k+1))=nibs (s.data.toList.take k) ++ [s[k] / 16,s[k] % 16]:=by
 rw[take_snoc s k h];simp[nibs]
theorem zym (n:Int) (h0:0≤n) (h1:n<256):IntKind.u8.wrap n=n:=by
 simp[IntKind.wrap,IntKind.signed,IntKind.bits];omega
theorem zyn (b:UInt8):IntKind.u8.wrap ((b.toNat:Int) / 16)=((b / 16).toNat:Int):=by
 have:=b.toNat_lt
 rw[zym _ (by omega) (by omega)];simp
theorem zyo (b:UInt8):(b.toNat:Int) / 16=((b / 16).toNat:Int):=by simp
theorem zyp (b:UInt8):((b.toNat:Int)).tmod 16=((b % 16).toNat:Int):=by
 rw[Int.tmod_eq_emod_of_nonneg (by omega)];simp
theorem zyq:∀ n:Fin 256,bits BinOp.and IntKind.u8 ((n.val:Nat):Int) 15=((n.val % 16:Nat):Int):=by decide +kernel
theorem u8_and15 (b:UInt8):bits BinOp.and IntKind.u8 (b.toNat:Int) 15=((b % 16).toNat:Int):=by
 have:=zyq ⟨b.toNat,b.toNat_lt⟩
 simpa using this
theorem zgd (g j:Nat):(⟨g,0,none⟩:Addr).add j=⟨g,j,none⟩:=by unfold Addr.add;split <;> simp_all
theorem zd6 {P:Program} {w:World} {base e t d g n cap:Nat} {l:List UInt8} (hs:P.underlying t=some (.slice e)) (he:P.underlying e=some (.int .u8)) (hd:P.underlying d=some .string)
 (h:w.ownsRow base e 1 (.slice (some ⟨g,0,none⟩) n cap) n (ze l)):(convert t d (.slice (some ⟨g,0,none⟩) n cap)).run P w=.ok (.string ⟨l.toArray⟩) w:=by
 have hn:n=l.length:=by have:=h.1;simp[ze] at this;omega
 subst hn
 refine run_convert_bytes_back w t d e _ cap l hs he hd fun j hj=>?_
 rw[zgd,h.cellAt j (by omega)]
 simp[ze,List.getElem?_eq_getElem hj]
theorem own_base {w:World} {base e size g n cap:Nat} {xs:List Value} (h:w.ownsRow base e size (.slice (some ⟨g,0,none⟩) n cap) n xs):base≤g:=by
 rcases h.2 with ⟨h',_⟩ | ⟨g',cap',cur,h',hb,_⟩
 · simp at h'
 · simp only[Value.slice.injEq,Option.some.injEq,Addr.mk.injEq,and_true,true_and] at h'
   obtain⟨rfl,rfl⟩:=h'
   exact hb
theorem zel {B g n cap:Nat} {w wr w1:World} {o:Obj} (hbel:Below B w wr) (hB:B≤wr.heap.size) (hg:B≤g) (hgrow:(wr.alloc o).drew.grownBy w1 (Value.slice (some ⟨g,0,none⟩) n cap).ownBlock):Below B w w1 :=
 ((hbel.alloc hB o).drew).grown hgrow (by simp;omega) (by intro j hj;simp[Value.ownBlock] at hj;subst hj;exact hg)
theorem zk2 {B g n cap:Nat} {w wr w1:World} {o:Obj} (hbel:Below B w wr) (hB:B≤wr.heap.size) (hg:B≤g) (hgrow:(wr.alloc o).grownBy w1 (Value.slice (some ⟨g,0,none⟩) n cap).ownBlock):Below B w w1 :=
 (hbel.alloc hB o).grown hgrow (by simp;omega) (by intro j hj;simp[Value.ownBlock] at hj;subst hj;exact hg)
theorem zcx {a b:List UInt8} (h:a=b):Ending.returned (.string ⟨a.toArray⟩)=.returned (.string ⟨b.toArray⟩):=by rw[h]
def zq (l:List UInt8):Bool:=l.all fun b=>decide (b.toNat≤15)
theorem zp1 (s:ByteArray) (k:Nat) (h:k<s.size):zq (s.data.toList.take (k+1))=(zq (s.data.toList.take k) && decide (s[k].toNat≤15)):=by
 rw[take_snoc s k h];simp[zq]
theorem zp2 (s:ByteArray) (k:Nat) (h:k<s.size) (hb:¬ s[k].toNat≤15):zq s.data.toList=false:=by
 have hm:s[k]∈s.data.toList:=by
  have:s[k]=s.data.toList[k]'(by simpa using h):=rfl
  rw[this];exact List.getElem_mem _
 unfold zq
 rw[List.all_eq_false]
 exact⟨s[k],hm,by simpa using hb⟩
theorem zyr (l:List UInt8) (h:zq l=true) (k:Nat) (hk:k<l.length):l[k].toNat≤15:=by
 unfold zq at h
 rw[List.all_eq_true] at h
 simpa using h l[k] (List.getElem_mem _)
def pack:List UInt8→List UInt8
 | a :: b :: r=>(16*a+b) :: pack r
 | _=>[]
theorem zk3:∀ (k:Nat) (l:List UInt8) (h:2*k+1<l.length),pack (l.take (2*(k+1)))=pack (l.take (2*k)) ++ [16*l[2*k]+l[2*k+1]]
 | 0,a :: b :: r,_=>by simp[pack]
 | k + 1, a :: b :: r, h => by
   have:=zk3 k r (by simp at h;omega)
   simp only[show 2*(k+1+1)=2*(k+1)+1+1 from by omega,show 2*(k+1)=2*k+1+1 from by omega,List.take_succ_cons,pack,List.cons_append,List.getElem_cons_succ] at this ⊢
   rw[this]
 | _,[],h=>by simp at h
 | _,[_],h=>by simp at h
theorem zp3:∀ (k:Nat) (l:List UInt8) (_:2*k≤l.length),(pack (l.take (2*k))).length=k
 | 0,_,_=>by simp[pack]
 | k + 1, a :: b :: r, h => by
   have:=zp3 k r (by simp at h;omega)
   simp only[show 2*(k+1)=2*k+1+1 from by omega,List.take_succ_cons,pack,List.length_cons]
   rw[this]
 | _+1,[],h=>by simp at h
 | _+1,[_],h=>by simp at h;omega
def za7 (l:List UInt8) (leaf:Bool):List UInt8 :=
 if l.length % 2=1 then (if leaf then 3 else 1) :: l else (if leaf then 2 else 0) :: 0 :: l
theorem zys:∀ a b:Fin 16,bits BinOp.or IntKind.u8 (IntKind.u8.wrap (((a.val:Nat):Int)*16)) ((b.val:Nat):Int)=((16*a.val+b.val:Nat):Int):=by decide +kernel
theorem zyt (a b:UInt8) (ha:a.toNat≤15) (hb:b.toNat≤15):((16*a+b:UInt8).toNat:Int)=16*(a.toNat:Int)+(b.toNat:Int):=by
 simp;omega
theorem zyu (a b:UInt8) (ha:a.toNat≤15) (hb:b.toNat≤15):bits BinOp.or IntKind.u8 (IntKind.u8.wrap ((a.toNat:Int)*16)) (b.toNat:Int)=((16*a+b:UInt8).toNat:Int):=by
 rw[zyt a b ha hb]
 have:=zys ⟨a.toNat,by omega⟩ ⟨b.toNat,by omega⟩
 simp only at this
 rw[this];omega
theorem zge (l:List UInt8) (b:UInt8):ze (l ++ [b])=ze l ++ [.int .u8 (b.toNat:Int)]:=by simp[ze]
theorem zp4 (s:ByteArray) (m k:Nat) (hm:m=2*k) (h:m+1<s.size):pack (s.data.toList.take (2*(k+1)))=pack (s.data.toList.take (2*k)) ++ [16*s[m]+s[m+1]]:=by
 subst hm
 rw[zk3 k s.data.toList (by simpa using h)]
 rfl
theorem zp5 (s:ByteArray) (h:zq s.data.toList=true) (m:Nat) (hm:m<s.size):s[m].toNat≤15 :=
 zyr s.data.toList h m (by simpa using hm)
theorem zp6 (W:World) (B:Nat) (hB:W.heap.size=B) (s:ByteArray) (cap:Nat) (t:TypeId) (fr:Nat × Nat) (j:Nat) (u:Value) (hu:(ze s.data.toList)[j]? = some u) :
 (W.alloc (.cells (bytesRow s cap) t fr)).drew.cell? ((⟨B,0,none⟩:Addr).add j)=some u:=by
 subst hB
 have hj:j<s.data.size:=by
  have:=(List.getElem?_eq_some_iff.1 hu).1
  simpa [ze] using this
 rw[zgd]
 show (W.alloc (.cells (bytesRow s cap) t fr)).cell? ⟨W.heap.size,j,none⟩=some u
 rw[World.cell?_alloc_mark,bytesRow_at s cap j hj]
 simp only[ze,List.getElem?_map,Array.getElem?_toList,Array.getElem?_eq_getElem hj,Option.map_some] at hu
 exact hu
theorem zgf (l:List UInt8):∀ u∈ze l,u.oneCell'=true:=by
 intro u hu
 simp only[ze,List.mem_map] at hu
 obtain⟨b,_,rfl⟩:=hu
 rfl
theorem zhq {w:World} {base e size n:Nat} {v:Value} {xs:List Value} (h:w.ownsRow base e size v n xs) (hn:v≠.slice none 0 0):∃ g cap,v=.slice (some ⟨g,0,none⟩) n cap:=by
 rcases h.2 with ⟨h',_⟩ | ⟨g,cap,_,h',_⟩
 · exact absurd h' hn
 · exact⟨g,cap,h'⟩
theorem zci {w:World} {base e size g n cap:Nat} {xs:List Value} (h:w.ownsRow base e size (.slice (some ⟨g,0,none⟩) n cap) n xs):g<w.heap.size:=by
 rcases h.2 with ⟨h',_⟩ | ⟨g',cap',cur,h',_,hg,_⟩
 · simp at h'
 · simp only[Value.slice.injEq,Option.some.injEq,Addr.mk.injEq,and_true,true_and] at h'
   obtain⟨rfl,rfl⟩:=h'
   exact (Array.getElem?_eq_some_iff.1 hg).1
theorem zhr {w wr:World} {base e g n cap:Nat} {l:List UInt8} (h:w.ownsRow base e 1 (.slice (some ⟨g,0,none⟩) n cap) n (ze l)) (hb:Below w.heap.size w wr) (j:Nat) (hj:j<l.length) :
 wr.cell? ⟨g,j,none⟩=some (.int .u8 (l[j].toNat:Int)):=by
 have hn:n=l.length:=by have:=h.1;simp[ze] at this;omega
 rw[hb.cell (p:=⟨g,j,none⟩) (zci h),h.cellAt j (by omega)]
 simp[ze,List.getElem?_eq_getElem hj]
theorem zp7 (l:List UInt8) (m k:Nat) (hm:m=2*k) (h:m+1<l.length):pack (l.take (2*(k+1)))=pack (l.take (2*k)) ++ [16*l[m]+l[m+1]]:=by
 subst hm
 exact zk3 k l h
theorem zp8 (l:List UInt8) (leaf:Bool) (h:l.length % 2=1):za7 l leaf=(if leaf then 3 else 1) :: l:=by simp[za7,h]
theorem zp9 (l:List UInt8) (leaf:Bool) (h:l.length % 2=0):za7 l leaf=(if leaf then 2 else 0) :: 0 :: l:=by simp[za7,h]
theorem zcj (W:World) (o:Obj) (B:Nat) (h:W.heap.size=B):(W.alloc o).heap[B]? = some o:=by
 subst h;exact heap_alloc_new W o
theorem zk4 (a b:UInt8):IntKind.u8.wrap (IntKind.u8.wrap (16*(a.toNat:Int))+(b.toNat:Int))=((16*a+b:UInt8).toNat:Int):=by
 simp[IntKind.wrap,IntKind.signed,IntKind.bits]
theorem zag (n:Int) (h0 : -1000000000000≤n) (h1:n≤1000000000000):IntKind.i64.wrap n=n:=by
 simp[IntKind.wrap,IntKind.signed,IntKind.bits];omega
def numB:Nat→Nat→List UInt8
 | 0,_=>[]
 | f+1,n=>if n=0 then [] else numB f (n / 256) ++ [UInt8.ofNat n]
def bigB (n k:Nat):List UInt8:=(List.range k).map fun j=>UInt8.ofNat (n / 2 ^ (8*(k - 1 - j)))
theorem zdt (n k:Nat):(bigB n k).length=k:=by simp[bigB]
theorem zpa (n k j:Nat) (h:j<k):(bigB n k).take (j+1)=(bigB n k).take j ++ [UInt8.ofNat (n / 2 ^ (8*(k - 1 - j)))]:=by
 rw[List.take_succ_eq_append_getElem (by simpa [bigB] using h)]
 simp[bigB]
theorem byte_of (n:Nat):((UInt8.ofNat n).toNat:Int)=(n:Int) % 256:=by
 rw[UInt8.toNat_ofNat'];simp
theorem zpb (n e:Nat):((UInt8.ofNat (n / 2 ^ e)).toNat:Int)=(n:Int) / 2 ^ e % 256:=by
 rw[byte_of];simp
def strip:List UInt8→List UInt8
 | a :: b :: r=>if a=0 then strip (b :: r) else a :: b :: r
 | l=>l
theorem zhs (b:UInt8) (r:List UInt8):strip (0 :: b :: r)=strip (b :: r):=by simp[strip]
theorem zk5 (l:List UInt8) (h:l.length≤1∨∃ a r,l=a :: r∧a≠0):strip l=l:=by
 rcases h with h | ⟨a,r,rfl,ha⟩
 · match l,h with
   | [],_=>rfl
   | [_],_=>rfl
   | _ :: _ :: _,h=>simp at h
 · cases r with
   | nil=>rfl
   | cons b r=>simp[strip,ha]
theorem zyv (f m:Nat) (h:m<256 ^ (f+1)) (h0:0<m):numB (f+1) m=numB f (m / 256) ++ [UInt8.ofNat m]∧m / 256<256 ^ f:=by
 rw[Nat.pow_succ] at h
 exact⟨by rw[numB,if_neg (by omega)],by omega⟩
theorem zgg (f:Nat):numB f 0=[]:=by cases f <;> simp[numB]
theorem zk6 (n:Nat) (h:0<n) (h1:n<256):numB 8 n=[UInt8.ofNat n]:=by
 rw[numB,if_neg (by omega),show n / 256=0 from by omega,zgg];rfl
theorem zk7 (n:Nat) (h:256≤n) (h1:n<65536):numB 8 n=[UInt8.ofNat (n / 256),UInt8.ofNat n]:=by
 rw[numB,if_neg (by omega),numB,if_neg (by omega),show n / 256 / 256=0 from by omega,zgg];rfl
theorem zyw (n:Nat) (h:0<n) (h1:n<65536):strip (bigB n 4)=numB 8 n:=by
 have e:bigB n 4=[0,0,UInt8.ofNat (n / 256),UInt8.ofNat n]:=by
  have h3:n / 2 ^ 24=0:=by omega
  have h2:n / 2 ^ 16=0:=by omega
  simp only[bigB,List.range,List.range.loop,List.map_cons,List.map_nil]
  simp[h3,h2]
 rw[e,zhs,zhs]
 by_cases hs:n<256
 · have:n / 256=0:=by omega
   rw[zk6 n h hs,this]
   have:(UInt8.ofNat 0)=0:=rfl
   rw[this,zhs,zk5 _ (.inl (by simp))]
 · rw[zk7 n (by omega) h1]
   refine zk5 _ (.inr ⟨_,_,rfl,fun h0=>?_⟩)
   have:=congrArg UInt8.toNat h0
   simp at this
   omega
theorem zyx (m:Nat) (hm:m<9223372036854775808):bits BinOp.and IntKind.i64 (m:Int) 255 % 256=((UInt8.ofNat m).toNat:Int):=by
 have hx:m &&& 255=m % 256:=Nat.and_two_pow_sub_one_eq_mod m 8
 have:bits BinOp.and IntKind.i64 (m:Int) 255=((m % 256:Nat):Int):=by
  show IntKind.i64.wrap ((BitVec.ofInt 64 (m:Int) &&& BitVec.ofInt 64 ((255:Nat):Int)).toNat:Int)=_
  rw[BitVec.toNat_and,ofInt_u64 m (by omega),ofInt_u64 255 (by omega),hx]
  simp[IntKind.wrap,IntKind.signed,IntKind.bits];omega
 rw[this,byte_of];omega
def za9 (l:List UInt8) (h:Nat):List UInt8 :=
 if l.length≤55 then UInt8.ofNat (h+l.length) :: l else UInt8.ofNat (h+55+(numB 8 l.length).length) :: (numB 8 l.length ++ l)
theorem zpc (n:Nat) (h:0<n) (h1:n<65536):(numB 8 n).length≤2:=by
 by_cases hs:n<256
 · rw[zk6 n h hs];simp
 · rw[zk7 n (by omega) h1];simp
theorem zgh (b:UInt8) (l:List UInt8):(ByteArray.mk #[b]) ++ ByteArray.mk l.toArray=⟨(b :: l).toArray⟩:=by
 apply ByteArray.ext;simp
theorem ba_eq (s:ByteArray):s=⟨s.data.toList.toArray⟩:=by
 apply ByteArray.ext;simp
theorem zht (a:List UInt8) (s:ByteArray):ByteArray.mk a.toArray ++ s=⟨(a ++ s.data.toList).toArray⟩:=by
 apply ByteArray.ext;simp
theorem zyy (l:List UInt8):(ByteArray.mk l.toArray).extract 1 l.length=⟨l.tail.toArray⟩:=by
 apply ByteArray.ext
 simp[ByteArray.extract,ByteArray.copySlice]
 exact List.take_of_length_le (by simp)
def valB (l:List UInt8):Nat:=l.foldl (fun n b=>256*n+b.toNat) 0
theorem zk8 (l:List UInt8) (b:UInt8):valB (l ++ [b])=256*valB l+b.toNat:=by simp[valB]
theorem zyz:∀ (k:Nat) (l:List UInt8),l.length≤k→valB l<256 ^ k:=by
 intro k
 induction k with
 | zero=>intro l h;have:l=[]:=List.length_eq_zero_iff.1 (by omega);subst this;decide
 | succ k ih =>
   intro l h
   by_cases hl:l=[]
   · subst hl;exact Nat.pow_pos (by decide)
   · rw[←List.dropLast_concat_getLast hl,zk8]
     have h1:=ih l.dropLast (by simp;omega)
     have h2:=(l.getLast hl).toNat_lt
     rw[Nat.pow_succ]
     omega
theorem zk9 (l:List UInt8) (k:Nat) (h:k<l.length):valB (l.take (k+1))=256*valB (l.take k)+l[k].toNat:=by
 rw[List.take_succ_eq_append_getElem h,zk8]
theorem zgi (l:List UInt8) (j:Nat) (hj:j≤3):valB (l.take j)<16777216:=by
 have h:(l.take j).length≤3:=by simp;omega
 exact zyz 3 _ h
def lenOf (n:Nat) (r:List UInt8):Option (Nat × List UInt8) :=
 if n≤55 then some (n,r)
 else if r.length<n - 55∨3<n - 55∨r.head? = some 0∨valB (r.take (n - 55))≤55 then none
 else some (valB (r.take (n - 55)),r.drop (n - 55))
def lone (n:Nat) (r:List UInt8):Bool:=match r with
 | b :: _=>decide (n=1) && decide (b.toNat<128)
 | []=>false
def zn : List UInt8 → Option (Nat × List UInt8 × List UInt8)
 | []=>none
 | b :: r =>
   if b.toNat<128 then some (1,[b],r)
   else if b.toNat<192 then
    match lenOf (b.toNat - 128) r with
    | none=>none
    | some (n,r')=>if r'.length<n∨60000<n∨lone n r'=true then none else some (1,r'.take n,r'.drop n)
   else
    match lenOf (b.toNat - 192) r with
    | none=>none
    | some (n,r')=>if r'.length<n∨60000<n then none else some (2,r'.take n,r'.drop n)
theorem zpd (b:UInt8) (r:List UInt8) (h1:¬ b.toNat<128) (h2:b.toNat<192):zn (b :: r)=match lenOf (b.toNat - 128) r with
 | none=>none
 | some (n,r')=>if r'.length<n∨60000<n∨lone n r'=true then none else some (1,r'.take n,r'.drop n):=by
 simp only[zn];rw[if_neg h1,if_pos h2]
theorem zpe (b:UInt8) (r:List UInt8) (h2:¬ b.toNat<192):zn (b :: r)=match lenOf (b.toNat - 192) r with
 | none=>none
 | some (n,r')=>if r'.length<n∨60000<n then none else some (2,r'.take n,r'.drop n):=by
 simp only[zn];rw[if_neg (by omega),if_neg h2]
def tkV:Option (Nat × List UInt8 × List UInt8)→Value
 | none=>.tuple #[.int .i64 0,.string ⟨#[]⟩,.string ⟨#[]⟩,.bool false]
 | some (k,b,r)=>.tuple #[.int .i64 (k:Int),.string ⟨b.toArray⟩,.string ⟨r.toArray⟩,.bool true]
theorem zdf (l:List UInt8) (n:Nat) (h:n≤l.length):(ByteArray.mk l.toArray).extract 0 n=⟨(l.take n).toArray⟩:=by
 apply ByteArray.ext
 simp[ByteArray.extract,ByteArray.copySlice]
theorem zbg (l:List UInt8) (n:Nat) (h:n≤l.length):(ByteArray.mk l.toArray).extract n l.length=⟨(l.drop n).toArray⟩:=by
 apply ByteArray.ext
 simp[ByteArray.extract,ByteArray.copySlice]
 exact List.take_of_length_le (by simp)
theorem zpf {P:Program} {t:TypeId} (ht:P.underlying t=some .string) (l:List UInt8) (x:Int) (n:Nat) (hx:x=(n:Int)) (h:n≤l.length) (W:World) :
 (Instr.slice t (.string ⟨l.toArray⟩) none (some (.int .i64 x)) none).run P W=.ok (.string ⟨(l.take n).toArray⟩) W:=by
 subst hx
 have hz:(ByteArray.mk l.toArray).size=l.length:=by simp[ByteArray.size]
 rw[run_slice_string_to_if W t _ _ _ ht,if_pos (by rw[hz];omega),Int.toNat_natCast,zdf l n h]
theorem zpg {P:Program} {t:TypeId} (ht:P.underlying t=some .string) (l:List UInt8) (x:Int) (n:Nat) (hx:x=(n:Int)) (h:n≤l.length) (W:World) :
 (Instr.slice t (.string ⟨l.toArray⟩) (some (.int .i64 x)) none none).run P W=.ok (.string ⟨(l.drop n).toArray⟩) W:=by
 subst hx
 have hz:(ByteArray.mk l.toArray).size=l.length:=by simp[ByteArray.size]
 rw[run_slice_string_from_if W t _ _ _ ht,if_pos (by rw[hz];omega),Int.toNat_natCast,hz,zbg l n h]
theorem zcq {P:Program} {t:TypeId} (ht:P.underlying t=some .string) (l:List UInt8) (x:Int) (n:Nat) (hx:x=(n:Int)) (h:n<l.length) (W:World) :
 (Instr.index t (.string ⟨l.toArray⟩) (.int .i64 x)).run P W=.ok (.int .u8 (l[n].toNat:Int)) W:=by
 subst hx
 have hz:(ByteArray.mk l.toArray).size=l.length:=by simp[ByteArray.size]
 rw[run_index_string W t _ _ _ ht,dif_pos (by rw[hz];omega)]
 rfl
theorem zz0 (x y:Nat) (hx:x<16777216) (hy:y<256):bits BinOp.or IntKind.i64 ((x:Int)*256) (y:Int)=((256*x+y:Nat):Int):=by
 have hj:x*256 ||| y=x*256+y:=nat_join 8 (x*256) y (by omega) (by omega)
 have e:((x:Int)*256)=((x*256:Nat):Int):=by omega
 rw[e]
 show IntKind.i64.wrap ((BitVec.ofInt 64 ((x*256:Nat):Int) ||| BitVec.ofInt 64 (y:Int)).toNat:Int)=_
 rw[BitVec.toNat_or,ofInt_u64 (x*256) (by omega),ofInt_u64 y (by omega),hj]
 simp[IntKind.wrap,IntKind.signed,IntKind.bits];omega
def zaz (n:Nat) (r:List UInt8):Option (List UInt8 × List UInt8) :=
 match lenOf n r with
 | none=>none
 | some (n',r')=>if r'.length<n'∨60000<n' then none else some (r'.take n',r'.drop n')
theorem zgj (n:Nat) (r:List UInt8) (h:n≤55):zaz n r=if r.length<n then none else some (r.take n,r.drop n):=by
 rw[zaz,lenOf,if_pos h]
 by_cases hf:r.length<n
 · rw[if_pos hf];simp only[if_pos (show r.length<n∨60000<n from .inl hf)]
 · rw[if_neg hf];simp only[if_neg (show ¬ (r.length<n∨60000<n) from by omega)]
theorem zgk (m:Nat) (r:List UInt8) (hm:1≤m):zaz (55+m) r=if r.length<m∨3<m∨r.head? = some 0 then none else
 if valB (r.take m)≤55∨60000<valB (r.take m)∨(r.drop m).length<valB (r.take m) then none else some ((r.drop m).take (valB (r.take m)),(r.drop m).drop (valB (r.take m))):=by
 rw[zaz,lenOf,if_neg (by omega),show 55+m - 55=m from by omega]
 by_cases h1:r.length<m∨3<m∨r.head? = some 0
 · rw[if_pos h1,if_pos (by rcases h1 with h | h | h <;> simp[h])]
 · rw [if_neg h1]
   by_cases h2:valB (r.take m)≤55
   · rw[if_pos (.inr (.inr (.inr h2))),if_pos (.inl h2)]
   · rw[if_neg (by rintro (h | h | h | h);exact h1 (.inl h);exact h1 (.inr (.inl h));exact h1 (.inr (.inr h));exact h2 h)]
     by_cases h3:60000<valB (r.take m)∨(r.drop m).length<valB (r.take m)
     · simp only[if_pos (show (r.drop m).length<valB (r.take m)∨60000<valB (r.take m) from h3.symm)]
       rw[if_pos (.inr h3)]
     · simp only[if_neg (show ¬ ((r.drop m).length<valB (r.take m)∨60000<valB (r.take m)) from fun h=>h3 h.symm)]
       rw[if_neg (fun h=>h.elim h2 h3)]
def zb6:List UInt8→Bool
 | [c]=>decide (c.toNat<128)
 | _=>false
theorem zz1 (n:Nat) (r:List UInt8) (h:n≤r.length):lone n r=zb6 (r.take n):=by
 match r,n,h with
 | [],0,_=>rfl
 | [],n+1,h=>simp at h
 | c :: r',0,_=>simp[lone,zb6]
 | c :: r',1,_=>simp[lone,zb6]
 | [c],n+2,h=>simp at h
 | c :: c' :: r',n+2,_=>simp[lone,zb6]
def zbt (k:Nat) (text:Bool):Option (List UInt8 × List UInt8)→Option (Nat × List UInt8 × List UInt8)
 | none=>none
 | some (bd,rest)=>if (text && zb6 bd)=true then none else some (k,bd,rest)
theorem ze7 (b:UInt8) (r:List UInt8) (h1:¬ b.toNat<128) (h2:b.toNat<192):zn (b :: r)=zbt 1 true (zaz (b.toNat - 128) r):=by
 rw[zpd b r h1 h2,zaz]
 cases lenOf (b.toNat - 128) r with
 | none=>rfl
 | some x =>
   obtain⟨n,r'⟩:=x
   by_cases h:r'.length<n∨60000<n
   · simp only[if_pos h,zbt];rw[if_pos (by rcases h with h | h <;> simp[h])]
   · simp only[if_neg h,zbt,Bool.true_and]
     rw[zz1 n r' (by omega)]
     by_cases hl:zb6 (r'.take n)=true
     · rw[if_pos (.inr (.inr hl)),if_pos hl]
     · rw[if_neg (by simp only[hl,Bool.false_eq_true,or_false];exact h),if_neg hl]
theorem ze8 (b:UInt8) (r:List UInt8) (h2:¬ b.toNat<192):zn (b :: r)=zbt 2 false (zaz (b.toNat - 192) r):=by
 rw[zpe b r h2,zaz]
 cases lenOf (b.toNat - 192) r with
 | none=>rfl
 | some x =>
   obtain⟨n,r'⟩:=x
   by_cases h:r'.length<n∨60000<n
   · simp only[if_pos h,zbt]
   · simp only[if_neg h,zbt,Bool.false_and,Bool.false_eq_true,if_false]
def zz (l:List UInt8):List UInt8:=match l with
 | [b]=>if b.toNat<128 then [b] else za9 [b] 128
 | l=>za9 l 128
def zgl (l:List UInt8):List UInt8:=if l.length≤60000 then zz l else []
theorem zph (s:ByteArray) (h:s.size=1) (hb:(s[0]'(by omega)).toNat<128):zz s.data.toList=s.data.toList:=by
 have e:s.data.toList=[s[0]'(by omega)]:=by
  apply List.ext_getElem
  · simpa using h
  · intro i h1 h2
    simp at h2;subst h2;rfl
 rw[e,zz,if_pos hb]
theorem zpi (s:ByteArray) (h:s.size=1) (hb:¬ (s[0]'(by omega)).toNat<128):zz s.data.toList=za9 s.data.toList 128:=by
 have e:s.data.toList=[s[0]'(by omega)]:=by
  apply List.ext_getElem
  · simpa using h
  · intro i h1 h2
    simp at h2;subst h2;rfl
 rw[e,zz,if_neg hb]
theorem zpj (l:List UInt8) (h:l.length≠1):zz l=za9 l 128:=by
 match l,h with
 | [],_=>rfl
 | [_],h=>simp at h
 | _ :: _ :: _,_=>rfl
theorem zpk (x:Nat) (b:UInt8):UInt8.ofNat (256*x+b.toNat)=b:=by
 apply UInt8.toNat_inj.1
 have:=b.toNat_lt
 simp
theorem zz2 : ∀ (f : Nat) (q : List UInt8), q.length ≤ f → q.head? ≠ some 0 → numB f (valB q) = q := by
 intro f
 induction f with
 | zero=>intro q h _;have:q=[]:=List.length_eq_zero_iff.1 (by omega);subst this;rfl
 | succ f ih =>
   intro q h hq
   by_cases hn:q=[]
   · subst hn;rfl
   · obtain⟨p,b,rfl⟩:∃ p b,q=p ++ [b]:=⟨q.dropLast,q.getLast hn,(List.dropLast_concat_getLast hn).symm⟩
     have hb:=b.toNat_lt
     rw[zk8]
     by_cases hp:p=[]
     · subst hp
       have hb0:b≠0:=fun e=>hq (by simp[e])
       have hb1:b.toNat≠0:=fun e=>hb0 (UInt8.toNat_inj.1 (by simpa using e))
       have e0:valB []=0:=rfl
       rw[e0,numB,if_neg (by omega),show (256*0+b.toNat) / 256=0 from by omega,zgg,zpk]
     · have ih':=ih p (by simp at h;omega) (by
        cases p with
        | nil=>exact absurd rfl hp
        | cons c r=>simpa using hq)
       have hv:valB p≠0:=fun e=>by rw[e,zgg] at ih';exact hp ih'.symm
       rw[numB,if_neg (by omega),show (256*valB p+b.toNat) / 256=valB p from by omega,ih',zpk]
theorem zhu (n:Nat) (h:0<n) (h1:n<65536):valB (numB 8 n)=n∧1≤(numB 8 n).length∧(numB 8 n).length≤2∧(numB 8 n).head?≠some 0:=by
 by_cases hs:n<256
 · rw[zk6 n h hs]
   refine⟨by simp[valB];omega,by simp,by simp,fun e=>?_⟩
   simp only[List.head?_cons,Option.some.injEq] at e
   have:=congrArg UInt8.toNat e
   simp at this;omega
 · rw[zk7 n (by omega) h1]
   refine⟨by simp[valB];omega,by simp,by simp,fun e=>?_⟩
   simp only[List.head?_cons,Option.some.injEq] at e
   have:=congrArg UInt8.toNat e
   simp at this;omega
theorem zka (l r:List UInt8):(l ++ r).take l.length=l:=by simp
theorem zkb (l r:List UInt8):(l ++ r).drop l.length=r:=by simp
theorem zpl (l rest:List UInt8) (h:l.length≤55):zaz l.length (l ++ rest)=some (l,rest):=by
 rw[zgj _ _ h,if_neg (by simp),zka,zkb]
theorem zpm (l rest:List UInt8) (h:55<l.length) (h1:l.length≤60000):zaz (55+(numB 8 l.length).length) (numB 8 l.length ++ (l ++ rest))=some (l,rest):=by
 obtain⟨e1,e2,e3,e4⟩:=zhu l.length (by omega) (by omega)
 obtain⟨q,hq⟩:∃ q,q=numB 8 l.length:=⟨_,rfl⟩
 rw[←hq] at e1 e2 e3 e4 ⊢
 have hh:(q ++ (l ++ rest)).head?≠some 0:=by
  cases q with
  | nil=>simp at e2
  | cons c r=>simpa using e4
 rw[zgk _ _ e2,if_neg (by rintro (x | x | x);simp at x;omega;omega;exact hh x),zka,zkb,e1,if_neg (by rintro (x | x | x);omega;omega;simp at x;omega),zka,zkb]
theorem zz3 (n : Nat) (r bd rest : List UInt8) (h : zaz n r = some (bd, rest)) : bd.length ≤ 60000 ∧
 ((bd.length≤55∧n=bd.length∧bd ++ rest=r)∨(55<bd.length∧n=55+(numB 8 bd.length).length∧numB 8 bd.length ++ (bd ++ rest)=r)):=by
 by_cases h55:n≤55
 · rw[zgj n r h55] at h
   by_cases hf:r.length<n
   · rw[if_pos hf] at h;cases h
   · rw[if_neg hf] at h;cases h
     have:(r.take n).length=n:=by simp;omega
     exact⟨by omega,.inl ⟨by omega,this.symm,List.take_append_drop _ _⟩⟩
 · obtain ⟨m, rfl⟩ : ∃ m, n = 55 + m := ⟨n - 55, by omega⟩
   rw[zgk m r (by omega)] at h
   by_cases hl:r.length<m∨3<m∨r.head? = some 0
   · rw[if_pos hl] at h;cases h
   · rw [if_neg hl] at h
     by_cases hf:valB (r.take m)≤55∨60000<valB (r.take m)∨(r.drop m).length<valB (r.take m)
     · rw[if_pos hf] at h;cases h
     · rw [if_neg hf] at h; cases h
       have e:((r.drop m).take (valB (r.take m))).length=valB (r.take m):=by rw[List.length_take];omega
       have hh:(r.take m).head?≠some 0:=by
        cases r with
        | nil=>simp
        | cons c r' =>
          obtain⟨m',rfl⟩:∃ m',m=m'+1:=⟨m - 1,by omega⟩
          intro x
          exact hl (.inr (.inr (by simpa using x)))
       have hlm:(r.take m).length=m:=by rw[List.length_take];omega
       have en:numB 8 (valB (r.take m))=r.take m:=zz2 8 _ (by omega) hh
       refine⟨by omega,.inr ⟨by omega,?_,?_⟩⟩
       · rw[e,en,hlm]
       · rw[e,en,List.take_append_drop,List.take_append_drop]
theorem zd7 (n:Nat) (h:n<256):(UInt8.ofNat n).toNat=n:=by rw[UInt8.toNat_ofNat'];omega
theorem zz4 (l rest:List UInt8) (h:l.length≤60000):zn (za9 l 192 ++ rest)=some (2,l,rest):=by
 unfold za9
 by_cases hs:l.length≤55
 · rw[if_pos hs,List.cons_append,ze8 _ _ (by rw[zd7 _ (by omega)];omega),zd7 _ (by omega),Nat.add_sub_cancel_left,zpl l rest hs]
   rfl
 · have hb:=(zhu l.length (by omega) (by omega)).2.2.1
   rw[if_neg hs,List.cons_append,ze8 _ _ (by rw[zd7 _ (by omega)];omega),zd7 _ (by omega),Nat.add_assoc,Nat.add_sub_cancel_left,List.append_assoc,zpm l rest (by omega) h]
   rfl
theorem zpn (l rest:List UInt8) (h:l.length≤60000):zn (zz l ++ rest)=some (1,l,rest):=by
 have main:zb6 l=false→zn (za9 l 128 ++ rest)=some (1,l,rest):=by
  intro hl
  unfold za9
  by_cases hs:l.length≤55
  · rw[if_pos hs,List.cons_append,ze7 _ _ (by rw[zd7 _ (by omega)];omega) (by rw[zd7 _ (by omega)];omega),zd7 _ (by omega),Nat.add_sub_cancel_left,zpl l rest hs]
    simp[zbt,hl]
  · have hb:=(zhu l.length (by omega) (by omega)).2.2.1
    rw[if_neg hs,List.cons_append,ze7 _ _ (by rw[zd7 _ (by omega)];omega) (by rw[zd7 _ (by omega)];omega),zd7 _ (by omega),Nat.add_assoc,Nat.add_sub_cancel_left,List.append_assoc,zpm l rest (by omega) h]
    simp[zbt,hl]
 match l with
 | []=>exact main rfl
 | [b] =>
   by_cases hb:b.toNat<128
   · have e:zz [b]=[b]:=if_pos hb
     rw[e]
     show zn (b :: rest)=_
     simp only[zn]
     rw[if_pos hb]
   · have e:zz [b]=za9 [b] 128:=if_neg hb
     rw[e]
     exact main (by simp[zb6];omega)
 | _ :: _ :: _=>exact main rfl
theorem zhv (k':Nat) (t:Bool) (o:Option (List UInt8 × List UInt8)) (k:Nat) (bd more:List UInt8) (ho:zbt k' t o=some (k,bd,more)):o=some (bd,more)∧k=k'∧(t && zb6 bd)=false:=by
 cases o with
 | none=>cases ho
 | some x =>
   obtain⟨p,q⟩:=x
   simp only[zbt] at ho
   by_cases hc:(t && zb6 p)=true
   · rw[if_pos hc] at ho;cases ho
   · rw[if_neg hc] at ho;cases ho;exact⟨rfl,rfl,by simpa using hc⟩
theorem zpo (b:UInt8) (n:Nat) (h:n=b.toNat):UInt8.ofNat n=b:=by
 apply UInt8.toNat_inj.1
 have:=b.toNat_lt
 rw[zd7 _ (by omega),h]
theorem zpp (b:UInt8) (r bd rest:List UInt8) (h:Nat) (hb:h≤b.toNat) (hd:zaz (b.toNat - h) r=some (bd,rest)):za9 bd h ++ rest=b :: r∧bd.length≤60000:=by
 obtain⟨h1,h2⟩:=zz3 _ _ _ _ hd
 refine⟨?_,h1⟩
 rcases h2 with ⟨ha,hn,hr⟩ | ⟨ha,hn,hr⟩
 · rw[za9,if_pos ha,List.cons_append,hr,zpo b _ (by omega)]
 · rw[za9,if_neg (by omega),List.cons_append,List.append_assoc,hr,zpo b _ (by omega)]
theorem zpq (l:List UInt8) (h:zb6 l=false):zz l=za9 l 128:=by
 match l,h with
 | [],_=>rfl
 | [b],h=>exact if_neg (by simpa [zb6] using h)
 | _ :: _ :: _,_=>rfl
theorem zpr (l v more:List UInt8) (h:zn l=some (1,v,more)):zz v ++ more=l∧v.length≤60000:=by
 match l,h with
 | [],h=>cases h
 | b :: r, h =>
   by_cases h1:b.toNat<128
   · have e:zn (b :: r)=some (1,[b],r):=by simp only[zn];rw[if_pos h1]
     rw[e] at h;cases h
     exact⟨by simp[zz,h1],by simp⟩
   · by_cases h2:b.toNat<192
     · rw[ze7 b r h1 h2] at h
       obtain⟨ho,_,hl⟩:=zhv _ _ _ _ _ _ h
       rw[zpq v (by simpa using hl)]
       exact zpp b r v more 128 (by omega) ho
     · rw[ze8 b r h2] at h
       obtain⟨_,hk,_⟩:=zhv _ _ _ _ _ _ h
       omega
theorem zps (l v more:List UInt8) (h:zn l=some (2,v,more)):za9 v 192 ++ more=l∧v.length≤60000:=by
 match l,h with
 | [],h=>cases h
 | b :: r, h =>
   by_cases h1:b.toNat<128
   · have e:zn (b :: r)=some (1,[b],r):=by simp only[zn];rw[if_pos h1]
     rw[e] at h;cases h
   · by_cases h2:b.toNat<192
     · rw[ze7 b r h1 h2] at h
       obtain⟨_,hk,_⟩:=zhv _ _ _ _ _ _ h
       omega
     · rw[ze8 b r h2] at h
       obtain⟨ho,_,_⟩:=zhv _ _ _ _ _ _ h
       exact zpp b r v more 192 (by omega) ho
theorem zpt (l:List UInt8) (h:Nat) (hl:l.length<65536):(za9 l h).length≤l.length+3:=by
 unfold za9
 by_cases hs:l.length≤55
 · rw[if_pos hs];simp
 · have:=(zhu l.length (by omega) hl).2.2.1
   rw[if_neg hs];simp;omega
theorem zz5 (l:List UInt8) (hl:l.length<65536):(zz l).length≤l.length+3:=by
 by_cases h:zb6 l=false
 · rw[zpq l h];exact zpt l 128 hl
 · match l,h with
   | [],h=>simp[zb6] at h
   | [b],h=>simp only[zz];split <;> simp[za9]
   | _ :: _ :: _,h=>simp[zb6] at h
def zh (ls:List (List UInt8)):List Value:=ls.map fun l=>.string ⟨l.toArray⟩
theorem zem (ls:List (List UInt8)):(zh ls).length=ls.length:=by simp[zh]
theorem zc0 (ls:List (List UInt8)) (l:List UInt8):zh (ls ++ [l])=zh ls ++ [.string ⟨l.toArray⟩]:=by simp[zh]
theorem zff {w:World} {base e n:Nat} {v:Value} {xs:List Value} (h:w.ownsRow base e 1 v n xs) :
 (v=.slice none 0 0∧n=0∧xs=[])∨∃ g cap,v=.slice (some ⟨g,0,none⟩) n cap∧base≤g∧g<w.heap.size∧(∀ j,j<n→w.cell? ⟨g,j,none⟩=xs[j]?)∧(∀ j,w.frozen? ⟨g,j,none⟩=false):=by
 rcases h.2 with ⟨h',h0⟩ | ⟨g,cap,cur,h',hb,hg,_⟩
 · exact .inl ⟨h',h0,List.length_eq_zero_iff.1 (by rw[h.1,h0])⟩
 · subst h'
   exact .inr ⟨g,cap,rfl,hb,(Array.getElem?_eq_some_iff.1 hg).1,fun j hj=>h.cellAt j (by omega),fun j=>h.frozenAt j⟩
theorem zdu {w:World} {base e n:Nat} {v:Value} {xs:List Value} (h:w.ownsRow base e 1 v n xs):∃ a m c,v=.slice a m c:=by
 rcases h.2 with ⟨h',h0⟩ | ⟨g,cap,cur,h',_⟩
 · exact⟨_,_,_,h'⟩
 · exact⟨_,_,_,h'⟩
theorem zc {w:World} {base e size n:Nat} {v:Value} {xs:List Value} (h:w.ownsRow base e size v n xs):Hid (w.ownsRow base e size v n xs):=h
def vlen:Value→Nat
 | .slice _ n _=>n
 | _=>0
theorem zz6 {w:World} {base e n:Nat} {v:Value} {xs:List Value} (h:w.ownsRow base e 1 v n xs):vlen v=n:=by
 rcases h.2 with ⟨h',h0⟩ | ⟨g,cap,cur,h',_⟩
 · subst h';exact h0.symm
 · subst h';rfl
theorem zgm (ls:List (List UInt8)) (j:Nat) (h:j<ls.length):(zh ls)[j]? = some (.string ⟨ls[j].toArray⟩):=by simp[zh,h]
def decF:Nat→Nat→List UInt8
 | 0,_=>[]
 | f+1,n=>if n=0 then [] else decF f (n / 10) ++ [UInt8.ofNat (48+n % 10)]
def markT (n:Nat):List UInt8:=109 :: decF 20 n
theorem zz7 (f:Nat):decF f 0=[]:=by cases f <;> simp[decF]
theorem zz8 (f m:Nat) (h:m<10 ^ (f+1)) (h0:0<m):decF (f+1) m=decF f (m / 10) ++ [UInt8.ofNat (48+m % 10)]∧m / 10<10 ^ f:=by
 rw[Nat.pow_succ] at h
 exact⟨by rw[decF,if_neg (by omega)],by omega⟩
theorem zfg (l : List UInt8) (k : Nat) (bd more : List UInt8) (h : zn l = some (k, bd, more)) : more.length < l.length ∧ bd.length ≤ l.length := by
 match l,h with
 | [],h=>cases h
 | b :: r, h =>
   by_cases h1:b.toNat<128
   · have e:zn (b :: r)=some (1,[b],r):=by simp only[zn];rw[if_pos h1]
     rw[e] at h;cases h;simp
   · have hbl : ∀ n bd' rest', zaz n r = some (bd', rest') → rest'.length ≤ r.length ∧ bd'.length ≤ r.length := by
      intro n bd' rest' hb
      by_cases h55:n≤55
      · rw[zgj n r h55] at hb
        by_cases hf:r.length<n
        · rw[if_pos hf] at hb;cases hb
        · rw[if_neg hf] at hb;cases hb;simp;omega
      · obtain⟨m,rfl⟩:∃ m,n=55+m:=⟨n - 55,by omega⟩
        rw[zgk m r (by omega)] at hb
        by_cases hl:r.length<m∨3<m∨r.head? = some 0
        · rw[if_pos hl] at hb;cases hb
        · rw[if_neg hl] at hb
          by_cases hf:valB (r.take m)≤55∨60000<valB (r.take m)∨(r.drop m).length<valB (r.take m)
          · rw[if_pos hf] at hb;cases hb
          · rw[if_neg hf] at hb;cases hb;simp;omega
     have hin:∀ k' t o,zbt k' t o=some (k,bd,more)→o=some (bd,more):=by
      intro k' t o ho
      cases o with
      | none=>cases ho
      | some x =>
        obtain⟨p,q⟩:=x
        simp only[zbt] at ho
        by_cases hc:(t && zb6 p)=true
        · rw[if_pos hc] at ho;cases ho
        · rw[if_neg hc] at ho;cases ho;rfl
     by_cases h2:b.toNat<192
     · rw[ze7 b r h1 h2] at h
       have:=hbl _ _ _ (hin _ _ _ h)
       simp;omega
     · rw[ze8 b r h2] at h
       have:=hbl _ _ _ (hin _ _ _ h)
       simp;omega
def zar:Nat→List UInt8→Option (List (List UInt8))
 | _,[]=>some []
 | 0,_ :: _=>none
 | f + 1, b :: r => match zn (b :: r) with
   | none=>none
   | some (_,_,more)=>(zar f more).map fun t=>(b :: r).take ((b :: r).length - more.length) :: t
theorem zhw (f:Nat):zar f []=some []:=by cases f <;> rfl
theorem zkc (f:Nat) (b:UInt8) (r:List UInt8) (h:zn (b :: r)=none):zar f (b :: r)=none:=by
 cases f with
 | zero=>rfl
 | succ f=>simp only[zar,h]
theorem zkd (f:Nat) (b:UInt8) (r:List UInt8) (k:Nat) (bd more:List UInt8) (h:zn (b :: r)=some (k,bd,more)) :
 zar (f+1) (b :: r)=(zar f more).map fun t=>(b :: r).take ((b :: r).length - more.length) :: t:=by simp only[zar,h]
def zbb (l:List UInt8):Option (List (List UInt8)):=match zn l with
 | some (2,body,[])=>zar body.length body
 | _=>none
theorem zke (l:List UInt8) (h:zn l=none):zbb l=none:=by simp only[zbb,h]
theorem zkf (l:List UInt8) (k:Nat) (bd rest:List UInt8) (h:zn l=some (k,bd,rest)) (hk:k≠2∨rest≠[]):zbb l=none:=by
 simp only[zbb,h]
 rcases hk with hk | hk
 · match k,hk with
   | 0,_=>rfl
   | 1,_=>rfl
   | 2,hk=>exact absurd rfl hk
   | k+3,_=>rfl
 · cases rest with
   | nil=>exact absurd rfl hk
   | cons a r=>split <;> simp_all
theorem zkg (l bd:List UInt8) (h:zn l=some (2,bd,[])):zbb l=zar bd.length bd:=by simp only[zbb,h]
def zkh (w:World) (o:Option (List (List UInt8))) (e:Ending) (w':World):Prop:=match o with
 | none=>e=.returned (.tuple #[.slice none 0 0,.bool false])∧Below w.heap.size w w'
 | some ls=>∃ v,e=.returned (.tuple #[v,.bool true])∧w'.ownsRow w.heap.size 9 1 v ls.length (zh ls)∧Below w.heap.size w w'∧ls.length≤1048576
theorem zgn (l : List UInt8) (k : Nat) (bd rest : List UInt8) (h : zn l = some (k, bd, rest)) : k = 1 ∨ k = 2 := by
 match l,h with
 | [],h=>cases h
 | b :: r, h =>
   by_cases h1:b.toNat<128
   · have e:zn (b :: r)=some (1,[b],r):=by simp only[zn];rw[if_pos h1]
     rw[e] at h;cases h;exact .inl rfl
   · have hin:∀ k' t o,zbt k' t o=some (k,bd,rest)→k=k':=by
      intro k' t o ho
      cases o with
      | none=>cases ho
      | some x =>
        obtain⟨p,q⟩:=x
        simp only[zbt] at ho
        by_cases hc:(t && zb6 p)=true
        · rw[if_pos hc] at ho;cases ho
        · rw[if_neg hc] at ho;cases ho;rfl
     by_cases h2:b.toNat<192
     · rw[ze7 b r h1 h2] at h;exact .inl (hin _ _ _ h)
     · rw[ze8 b r h2] at h;exact .inr (hin _ _ _ h)
def zaq (l:List UInt8):Bool:=match zn l with
 | some (_,_,[])=>true
 | _=>false
theorem zki (l:List UInt8) (k:Nat) (bd:List UInt8) (h:zn l=some (k,bd,[])):zaq l=true:=by simp only[zaq,h]
theorem zz9 (l:List UInt8) (h:zn l=none):zaq l=false:=by simp only[zaq,h]
theorem zza (l:List UInt8) (k:Nat) (bd:List UInt8) (a:UInt8) (r:List UInt8) (h:zn l=some (k,bd,a :: r)):zaq l=false:=by simp only[zaq,h]
theorem zpu (ls:List (List UInt8)) (j:Nat) (h:j<ls.length):(ls.take (j+1)).flatten=(ls.take j).flatten ++ ls[j]:=by
 rw[List.take_succ_eq_append_getElem h,List.flatten_append]
 congr 1
 exact List.append_nil _
theorem zkj (ls:List (List UInt8)) (j:Nat):(ls.take j).flatten.length≤ls.flatten.length:=by
 have:ls.flatten=(ls.take j).flatten ++ (ls.drop j).flatten:=by rw[←List.flatten_append,List.take_append_drop]
 rw[this];simp
theorem zen (ls:List (List UInt8)) (j:Nat) (h:j<ls.length):ls[j].length≤ls.flatten.length:=by
 have:=zkj ls (j+1)
 rw[zpu ls j h,List.length_append] at this
 omega
def zc1 (ls:List (List UInt8)):List UInt8:=if ls.flatten.length≤60000∧ls.all zaq=true then za9 ls.flatten 192 else []
theorem zhx (ls:List (List UInt8)) (h:ls.flatten.length≤60000) (hi:ls.all zaq=true):zc1 ls=za9 ls.flatten 192:=if_pos ⟨h,hi⟩
theorem zzb (ls:List (List UInt8)) (j:Nat) (h:60000<(ls.take j).flatten.length):zc1 ls=[]:=if_neg fun hh=>by have:=zkj ls j;omega
theorem zzc (ls:List (List UInt8)) (j:Nat) (hj:j<ls.length) (h:zaq ls[j]=false):zc1 ls=[]:=if_neg fun hh=>by
 have:=List.all_eq_true.1 hh.2 ls[j] (List.getElem_mem _)
 rw[h] at this;cases this
theorem zzd (ls:List (List UInt8)) (j:Nat) (h:j<ls.length) (h0:(ls.take j).all zaq=true) (h1:zaq ls[j]=true):(ls.take (j+1)).all zaq=true:=by
 rw[List.take_succ_eq_append_getElem h,List.all_append,h0];simp[h1]
theorem join_nil (ls:List (List UInt8)):Lib.join ls []=ls.flatten:=by
 unfold Lib.join
 induction ls with
 | nil=>rfl
 | cons a r ih => cases r with
   | nil=>simp[List.intercalate]
   | cons b r=>simp[List.intercalate,List.intersperse] at ih ⊢;exact ih
def laid (ls:List (List UInt8)) (j:Nat):List Value:=zh (ls.take j) ++ List.replicate (ls.length - j) (.string ⟨#[]⟩)
structure RowX (w:World) (base g n cap:Nat) (xs:List Value):Prop where
 len:xs.length=n
 low:base≤g
 lt:g<w.heap.size
 fit:n≤cap
 cells:∀ j,j<n→w.cell? ⟨g,j,none⟩=xs[j]?
 spare:∀ j,n≤j→j<cap→(w.cell? ⟨g,j,none⟩).isSome=true∧w.frozen? ⟨g,j,none⟩=false
theorem RowX.kept {w w':World} {base g n cap:Nat} {xs:List Value} {row:Option Nat} (h:RowX w base g n cap xs) (hg:w.grownBy w' row) (hr:some g≠row):RowX w' base g n cap xs:=by
 have hb:=hg.block g h.lt hr
 refine⟨h.len,h.low,Nat.lt_of_lt_of_le h.lt hg.size,h.fit,fun j hj=>?_,fun j h1 h2=>?_⟩
 · rw[World.cell?_of_block (w:=w) (a:=⟨g,j,none⟩) hb];exact h.cells j hj
 · rw[World.cell?_of_block (w:=w) (a:=⟨g,j,none⟩) hb,World.frozen?_of_block (w:=w) (a:=⟨g,j,none⟩) hb];exact h.spare j h1 h2
theorem RowX.below {w w':World} {base g n cap:Nat} {xs:List Value} (h:RowX w base g n cap xs) (hb:Below w.heap.size w w'):RowX w' base g n cap xs :=
 h.kept (row:=none) ⟨hb.os,hb.tape,hb.output,hb.size,fun k hk _=>hb.block k hk⟩ (by simp)
theorem RowX.alloc {w:World} {base g n cap:Nat} {xs:List Value} (h:RowX w base g n cap xs) (o:Obj):RowX (w.alloc o) base g n cap xs :=
 h.below ((Below.refl _ _).alloc (Nat.le_refl _) _)
theorem zze {w:World} {base b1 e g n cap:Nat} {xs:List Value} (h:w.ownsRow b1 e 1 (.slice (some ⟨g,0,none⟩) n cap) n xs) (hb:base≤g):RowX w base g n cap xs:=by
 rcases h.2 with ⟨h',_⟩ | ⟨g',cap',cur,h',h1,h2,h3,h4,h5,h6⟩
 · cases h'
 · cases h'
   have hl:=h.1
   refine⟨by omega,hb,(Array.getElem?_eq_some_iff.1 h2).1,h3,fun j hj=>h.cellAt j (by omega),fun j hj1 hj2=>⟨?_,h.frozenAt j⟩⟩
   rw[cell_of_row w g j cur e _ h2,Array.getElem?_eq_getElem (by omega)]
   rfl
theorem zpv (b:Nat):∀ (vs:List Value) (o:Nat) (w:World) (k:Nat),k≠b→(w.setCells b o vs).heap[k]? = w.heap[k]?
 | [],_,_,_,_=>rfl
 | v :: r,o,w,k,h=>by rw[World.setCells,zpv b r (o+1) _ k h];exact heap_setCell_other w _ k v h
theorem setCells_size (b:Nat):∀ (vs:List Value) (o:Nat) (w:World),(w.setCells b o vs).heap.size=w.heap.size∧(w.setCells b o vs).os=w.os∧(w.setCells b o vs).tape=w.tape∧(w.setCells b o vs).output=w.output
 | [],_,_=>⟨rfl,rfl,rfl,rfl⟩
 | v :: r, o, w => by
   rw[World.setCells]
   obtain⟨h1,h2,h3,h4⟩:=setCells_size b r (o+1) (w.setCell ⟨b,o,none⟩ v)
   exact⟨h1.trans (by simp[World.setCell]),h2,h3,h4⟩
theorem zfh {P:Program} (w:World) {ops:Array Oper} {rest:List Oper} {o:Oper} {a:Act} {Q:Exit→Act→World→Prop}
 (hg:o.guard=none) (s x:Operand) (t:TypeId) (hop:o.op=Op.call { callee:=Callee.builtin Builtin.append,args:=#[s,x],argTypes:=#[t,t] })
 (e:TypeId) (i:TypeInfo) (z:Value) (bytes:Nat) (h1:P.underlying t=some (.slice e)) (h2:P.info? e=some i) (h3:i.zero=some z) (h4:i.size=1) (h5:i.bytes=bytes) (h6:z.cells.size=1)
 (base g n cap:Nat) (xs:List Value) (hs:a.eval s=.slice (some ⟨g,0,none⟩) n cap) (hR:RowX w base g n cap xs)
 (ad:Addr) (m c:Nat) (news:List Value) (hx:a.eval x=.slice (some ad) m c) (hn:news.length=m) (hc:∀ j u,news[j]? = some u→w.cell? (ad.add j)=some u) (h1c:∀ u∈news,u.oneCell'=true)
 (hm:0<m) (b1:n+m≤maxLen) (b2:(n+m)*bytes≤140737488355328) (hbw:base≤w.heap.size)
 (k:∀ g' cap' w',RowX w' base g' (n+m) cap' (xs ++ news)→w.grownBy w' (some g)→wpList P ops Q rest (a.put o.dst (.slice (some ⟨g',0,none⟩) (n+m) cap')) w') :
 wpList P ops Q (o :: rest) a w:=by
 refine wpList_append_arg w hg s x t hop e i z 1 bytes h1 h2 h3 h4 h5 h6 (by decide) g 0 n cap xs hs (by rw[hR.len];omega) (fun j u hj=>?_) ad m c news hx (by omega) hc h1c (fun hr j hj=>?_) b1 b2 (fun hr=>?_) (fun hr v' w' ho hgw=>?_)
 · have hj':j<n:=by have:=(List.getElem?_eq_some_iff.1 hj).1;rw[hR.len] at this;exact this
   rw[Nat.zero_add,hR.cells j hj'];exact hj
 · have:=hR.spare (n+j) (by omega) (by omega)
   simpa using this
 · have hsz:=setCells_size g news (0+n*1) w
   have hin:∀ j,j<news.length→(w.cell? ⟨g,0+n*1+j,none⟩).isSome=true:=fun j hj=>by
    have:=(hR.spare (n+j) (by omega) (by omega)).1
    simpa using this
   refine k g cap _ ⟨by rw[List.length_append,hR.len,hn],hR.low,by rw[hsz.1];exact hR.lt,hr,fun j hj=>?_,fun j hj1 hj2=>?_⟩ ⟨hsz.2.1,hsz.2.2.1,hsz.2.2.2,by rw[hsz.1];exact Nat.le_refl _,fun k' _ hk'=>zpv g news _ w k' (fun e=>hk' (by rw[e]))⟩
   · by_cases hjn:j<n
     · rw[World.cell?_setCells_out g news _ w ⟨g,j,none⟩ (fun _ _=>.inl (by simp;omega)),hR.cells j hjn,List.getElem?_append_left (by rw[hR.len];exact hjn)]
     · have:=World.cell?_setCells_in g news (0+n*1) w hin (j - n) (by omega)
       rw[show 0+n*1+(j - n)=j by omega] at this
       rw[this,List.getElem?_append_right (by rw[hR.len];omega),hR.len,List.getElem?_eq_getElem (by omega)]
   · rw[World.frozen?_setCells,World.cell?_setCells_out g news _ w ⟨g,j,none⟩ (fun _ _=>.inr (by simp;omega))]
     exact hR.spare j (by omega) hj2
 · rcases zff ho with ⟨rfl,h0,_⟩ | ⟨g',cap',rfl,hg1,hg2,hg3,hg4⟩
   · omega
   · exact k g' cap' w' (zze ho (by omega)) ⟨hgw.os,hgw.tape,hgw.output,hgw.size,fun k' hk' _=>hgw.block k' hk' (by simp)⟩
theorem zkk (W:World) (l:List UInt8) (base cap:Nat) (t:TypeId) (hb:base≤W.heap.size) (hc:l.length≤cap) :
 RowX (W.alloc (.cells (bytesRow ⟨l.toArray⟩ cap) t ((bytesRow ⟨l.toArray⟩ cap).size,(bytesRow ⟨l.toArray⟩ cap).size+1))) base W.heap.size l.length cap (ze l):=by
 have hz:(bytesRow ⟨l.toArray⟩ cap).size=cap:=by simp[bytesRow,ByteArray.size];omega
 have hblk:=heap_alloc_new W (.cells (bytesRow ⟨l.toArray⟩ cap) t ((bytesRow ⟨l.toArray⟩ cap).size,(bytesRow ⟨l.toArray⟩ cap).size+1))
 refine⟨ze6 l,hb,by simp,hc,fun j hj=>?_,fun j h1 h2=>⟨?_,?_⟩⟩
 · rw[cell_of_row _ _ j _ _ _ hblk,bytesRow_at ⟨l.toArray⟩ cap j (by simpa using hj)]
   simp[ze,hj]
 · rw[cell_of_row _ _ j _ _ _ hblk,Array.getElem?_eq_getElem (by omega)]
   rfl
 · have hjz:j<(bytesRow ⟨l.toArray⟩ cap).size:=by omega
   unfold World.frozen?
   rw[hblk]
   generalize (bytesRow ⟨l.toArray⟩ cap).size=z at hjz ⊢
   simp;omega
theorem zzf {P:Program} {w:World} {base t e d g n cap:Nat} {l:List UInt8} (hs:P.underlying t=some (.slice e)) (he:P.underlying e=some (.int .u8)) (hd:P.underlying d=some .string)
 (h:RowX w base g n cap (ze l)):(convert t d (.slice (some ⟨g,0,none⟩) n cap)).run P w=.ok (.string ⟨l.toArray⟩) w:=by
 have hn:l.length=n:=by rw[←ze6 l];exact h.len
 subst hn
 refine run_convert_bytes_back w t d e ⟨g,0,none⟩ cap l hs he hd (fun j hj=>?_)
 rw[zgd,h.cells j hj]
 simp[ze,hj]
end Go.Proofs.YtppljdnbhoeeoaaGreatDoor
