import Derived.Test.YtdncpkkhkbijfaaDoorTe20
import Derived.Deep.RegionLaw
import Derived.Deep.AppendLies
open Go.Proofs.Tryd
set_option linter.all false
set_option maxHeartbeats 0
set_option maxRecDepth 100000
namespace Go.Proofs.YtdncpkkhkbijfaaDoor
section
open Go.RowKit
theorem Qjm:(prog.info? 9).map (λi=>(i.zero,i.size,i.bytes))=some (some (.string ⟨#[]⟩),1,16):=by kernel_rfl
theorem Qqw {ops:Array Oper} {o:Oper} {a:Act} {K:Act->World->Prop} {Q:Exit->Act->World->Prop} {E:Prop} (hgd:o.guard=none) (s x:Operand)
  (ho:o.op= .call {callee:=.builtin .append,args:= #[s,x],argTypes:= #[55,55]})
  (w0 w:World) (v:Value) (n:Nat) (xs:List Value) (z:ByteArray) (hs:a.eval s=v) (hx:a.eval x= .slice (some ⟨w.heap.size,0,none⟩) 1 1) (hb:Vj 9 1 w0 w v n xs) (hlen:n<=10000000)
  (h: ∀v' w',Vj 9 1 w0 w' v' (n+1) (xs++[.string z])->K (a.put o.dst v') w'):
  if Region.wanted o (yielded ops a.tmps)=true then Oper.wp prog o a (w.alloc (.cells #[.string z] 9)) K Q else E:=by
 obtain ⟨i0,hi,hz0,hz1,hz2⟩:=info_parts Qjm;refine step_append_lies _ hgd s x 55 ho w0.heap.size 9 i0 (.string ⟨#[]⟩) 1 16 underlying55 hi hz0 hz1 hz2 rfl (by decide) v n xs hs (hb.1.alloc _) ⟨w.heap.size,0,none⟩ 1 1 [.string z] hx rfl ?_ ?_ (by decide) (by unfold maxLen;omega) (by omega) (by have:=hb.2.size;simp;omega) _ rfl ?_
 ·intro j u hj
  match j,hj with
  | 0,hj=>simp at hj;subst hj;simp [Addr.add]
 ·intro u hu;simp at hu;subst hu;rfl
 ·intro g cap w' hown hgrow hw hlt;refine h (.slice (some ⟨g,0,none⟩) (n+1) cap) w' ⟨hown,?_⟩;refine ((hb.2.alloc hb.2.size _)).grown hgrow (by have:=hb.2.size;simp;omega) ?_;intro k hk;exact (hb.1.lt k hk).1
def Gs (p:List UInt8×Nat):Value:=.string ⟨(p.1++32::Zz p.2).toArray⟩
theorem Tj {m:Nat} (h:m<=3):Kz (m:Int)=Zz m:=by unfold Kz Zz;rw [Wy (by omega),Jo]
theorem Qme (S K:List UInt8):(⟨S.toArray⟩++(⟨#[32]⟩:ByteArray)++⟨K.toArray⟩:ByteArray)=⟨(S++32::K).toArray⟩:=by apply ByteArray.ext;simp
theorem Qg6: ∀(f:Bool) (ps:List (List UInt8×Nat)),ps≠[]->Yu f ps=(if f then []else [44,32])++Lib.join (ps.map λp=>p.1++32::Zz p.2) [44,32]
 |f,[],h=>absurd rfl h
 |f,[p],_=>by rw [Yi,Z4,Lib.join_one];simp [Yu]
 |f,p::q::ps,_=>by have ih:=Qg6 false (q::ps) (List.cons_ne_nil _ _);rw [Yi,Lib.join_cons];rw [Yu,ih,Yi,Lib.join_cons];simp [Lib.joinTail]
theorem Qm1 {w:World} {a ka:Option Addr} {l:List Nd} {n c kc m:Nat} {ks:List Int} {ps:List (List UInt8×Nat)} (hn:n=l.length) (hf:n<=1000000) (hN:Nodes w a l) (hP:Jf w) (hm:m=ks.length) (Ow:m<=8) (hr:Wo .i64 w ka m (λj=>ks.getD j 0)) (hpl:ps.length=m)
  (hk: ∀j,j<m-> ∃q:Nat,ks.getD j 0=(q:Int)/\q<l.length/\Qg l q 24 ((ps.getD j ([],0)).2:Int) (ps.getD j ([],0)).1 []/\Gu (ps.getD j ([],0))):
  Calls prog 16 #[.slice a n c,.slice ka m kc] w λe w'=>e= .returned (.string ⟨(Yu true ps).toArray⟩)/\Below w.heap.size w w':=by
 have HN:=Qa hN;have HP:=Qa hP;have Q0:=Qa hn;have HR:=Qa hr;have Br:=Qa hpl;have HK:=Qa hk;clear hn hN hP hm hr hpl hk;go_enter func16,ntmps16;go_wp2_with fail;go_loopw [5,7,10] (λv _ t wr=> ∃j:Nat,j<=m/\t= .int .i64 (j:Int)/\Hid (Vj 9 1 w wr v j ((ps.take j).map Gs))) (λ_ _ t _=>m-(intOf t).toNat)
 case atStart=>exact ⟨0,by omega,rfl,by rw [List.take_zero];exact Vj.nil _ _ _⟩
 case round=>
  obtain ⟨j,hj,rfl,HV⟩:=hrel;by_cases hjm:j<m
  ·have Bp:(j:Int)<(m:Int):=(by omega);obtain ⟨q,hq,Vm,hat,hfin⟩:=HK.out j hjm;obtain ⟨kb,ko,hka,hkb,hkc⟩:=HR.out (by omega);have ck:=(HV.out.2.cell (p:=⟨kb,ko+j,none⟩) hkb).trans (hkc j hjm);simp only at ck;rw [hq]at ck;obtain ⟨nb,no,ha,hnb,hc5⟩:=(HN.out.below HV.out.2).at_ Vm;obtain ⟨d0,d1,d2,d3,d4⟩:=hc5;rw [hat.n]at d2;rw [Uj,hat.t]at d3;have D9:(q:Int)<(n:Int):=(by have:=Q0.out;omega);obtain ⟨p,hp⟩:=Qb (ps.getD j ([],0));rw [<-hp]at d2 d3 hfin;have W9:Hid ((ps.take (j+1)).map Gs=(ps.take j).map Gs++[Gs p]):=by show _=_;rw [Iw (d:=(([],0):List UInt8×Nat)) (by rw [Br.out];exact hjm),J9,<-hp];rfl
   obtain ⟨SB,hsb⟩:=Qb (⟨p.1.toArray⟩:ByteArray);obtain ⟨KB,hkb'⟩: ∃KB:ByteArray,KB=⟨(Zz p.2).toArray⟩:=⟨_,rfl⟩;have hsbz:SB.size<=32:=(by rw [hsb,Wj];exact hfin.1.short);have Qp2:KB.size<=4:=(by rw [hkb',Wj];exact Nq _);have hz1: ¬(9223372036854775807<SB.size+1):=(by omega);have hz2: ¬(9223372036854775807<SB.size+1+KB.size):=(by omega);have Qlh:Hid (Value.string (SB++(⟨#[32]⟩:ByteArray)++KB)=Gs p):=(by show _=_;rw [hsb,hkb',Qme];rfl);have HKI:Hid (Calls prog 17 #[.int .i64 (p.2:Int)] wr.drew λe w'=>e= .returned (.string KB)/\w'=wr.drew):=by have h1:=P5 (p.2:Int) wr.drew (((HP.out.below HV.out.2).below (Q5 wr 1 _)).tabs);rw [Tj hfin.2.2]at h1;rw [hkb'];exact h1
   rw [<-hsb]at d3;have HVD:=Qa (HV.out.drewN 1);obtain ⟨va,vc,hv,Lf,_⟩:=HV.out.shape;subst hv;rw [hka,ha];obtain ⟨N9,Gb⟩:=Qb ((p.2:Int):Int);rw [<-Gb]at d2 HKI;clear d0 d1 d4 hkc hat hfin hq hp hsb hkb' Gb;go_wp2_with fail;go_region_law (first
    |(go_simp;go_at_call 17;refine HKI.out.mono ?_;rintro e w2 ⟨rfl,hw2⟩;rw [hw2];clear hw2 w2)
    |(refine Qqw rfl (.tmp 14) (.tmp 28) rfl w wr.drew (.slice va j vc) j ((ps.take j).map Gs) (SB++(⟨#[32]⟩:ByteArray)++KB) (by rfl) (by rfl) HVD.out (by omega) ?_;intro v3 w3 h3;have Ms:=Qa h3;clear h3))
   all_goals
    rw [Qlh.out,<-W9.out]at Ms;go_wp2_with fail;go_roundw
    case rel=>exact ⟨j+1,by omega,by go_num,Ms⟩
    case measure=>simp [intOf];omega
  ·have HJ:Hid (ps.take j=ps):=(by show _=_;rw [Ac (by rw [Br.out];omega)]);rw [HJ.out]at HV;obtain rfl:j=m:=(by omega);rcases Nat.eq_zero_or_pos j with h0 |h0
   ·have HE:Hid (ps=[]):=List.length_eq_zero_iff.1 (by rw [Br.out];exact h0);subst h0;obtain ⟨va,vc,hv,_⟩:=HV.out.shape;subst hv;go_wp2_with fail;refine (Tryd.strings_Join_none va vc _ wr).mono ?_;rintro e w3 ⟨rfl,hw3⟩;rw [hw3];clear hw3 w3;go_wp2_with fail;go_ret;exact ⟨by rw [HE.out];rfl,HV.out.2⟩
   ·obtain ⟨va,vc,hv,Lf,hcell⟩:=HV.out.shape;obtain ⟨g,hg,Oe,hcc⟩:=hcell h0;subst hv hg;obtain ⟨F,hF⟩:=Qb (ps.map λp=>p.1++32::Zz p.2);have Kl:Hid ((F.map (λb=>(⟨b.toArray⟩:ByteArray))).length=j):=(by show _=_;rw [Cq,hF,Cq];exact Br.out);have Io:Hid ((F.map (λb=>(⟨b.toArray⟩:ByteArray))).map (·.data.toList)=F):=by show _=_;rw [K7];exact List.map_id F
    have Ct:Hid (ps≠[]):=λe=>(by have h1:=Br.out;rw [e]at h1;simp at h1;omega);have Qe:Hid (Yu true ps=Lib.join F [44,32]):=(by show _=_;rw [Qg6 true ps Ct.out,hF];rfl);have HLEN:Hid ((Yu true ps).length<=48*100):=by
     have hfin: ∀p∈ps,Gu p:=λp hp=>by obtain ⟨i,hi⟩:=List.getElem?_of_mem hp;have hil:=(List.getElem?_eq_some_iff.1 hi).1;obtain ⟨_,_,_,_,h2⟩:=HK.out i (by rw [<-Br.out];exact hil);rw [Yh,hi]at h2;exact h2
     have h1:=M0 ps hfin true;have h2: ∀qs:List (List UInt8×Nat),Y0 (qs.map J6)=qs.length:=λqs=>by
      induction qs with
      |nil=>rfl
      |cons q qs ih=>show (J6 q).size+Y0 (qs.map J6)=qs.length+1;rw [ih];show 0+1+qs.length=_;omega
     rw [h2]at h1;have h3:=Br.out;show _<=_;omega
    have hj:=Tryd.strings_Join g 0 vc (F.map (λb=>(⟨b.toArray⟩:ByteArray))) ⟨#[44,32]⟩ wr (λi y hy=>by
      rw [Fw];refine hcc i _ ?_;rw [Gc]at hy ⊢;cases hfj:F[i]? with
      |none=>rw [hfj]at hy;cases hy
      |some b=>
       rw [hfj]at hy;injection hy with hy
       rw [<-hy];rw [hF,Gc]at hfj;cases hpi:ps[i]? with
       |none=>rw [hpi]at hfj;cases hfj
       |some p=>
        rw [hpi]at hfj;injection hfj with hfj
        rw [<-hfj];rfl) Oe (by rw [Kl.out];omega) (by rw [Kl.out];exact Lf) (by rw [Io.out];have h1:=HLEN.out;rw [Qe.out]at h1;exact Xw h1 (by omega));rw [Kl.out,Io.out]at hj;have HJN:=Qa hj;clear hj hcell hcc Oe Lf hF;go_wp2_with fail;refine HJN.out.mono ?_;rintro e w3 ⟨rfl,hb3⟩;have HB3:Hid (Below w.heap.size w w3):=HV.out.2.trans (hb3.mono HV.out.2.size);clear hb3;go_wp2_with fail;go_ret;exact ⟨by rw [Qe.out];rfl,HB3.out⟩
def Qqa (l:List Nd) (w:World) (e:Ending) (w':World):Prop:=Below w.heap.size w w'/\
 ((Wh l/\ ∃fs,XR l ((l.length-1:Nat):Int) fs/\e= .returned (.tuple #[.string ⟨(Yx fs).toArray⟩,.bool true]))\/(¬Wh l/\e= .returned (.tuple #[.string ⟨#[]⟩,.bool false])))
theorem Qa5 (f:Wd): ∀fs:List Wd,Yx (fs++[f])=Yx fs++f.txt
 | []=>by show Yx [f]=_;simp [Yx]
 |x::fs=>by show Yx (x::(fs++[f]))=_;rw [Yx,Yx,Qa5 f fs,Yg]
theorem Qf1 {fs:List Wd} {j:Nat} (hj:j<fs.length):Yx (fs.take (j+1))=Yx (fs.take j)++(fs.getD j ⟨[],[],0,[]⟩).txt:=by rw [Iw (d:=(⟨[],[],0,[]⟩:Wd)) hj,Qa5]
theorem Tf: ∀(fs:List Wd) (j:Nat),(Yx (fs.take j)).length<=(Yx fs).length
 | [],j=>by rw [List.take_nil];exact Yc _
 |x::fs,0=>by rw [List.take_zero,Yx];exact Kr _
 |x::fs,j+1=>by have:=Tf fs j;rw [List.take_succ_cons,Yx,Yx];simp only [Qd];omega
theorem Qcc {l:List Nd} (H:Qo l) {i:Nat} (hi:i<l.length) {ks:List Int} (hks: ∀k∈ks,k∈(nd l i).kids/\Qz l k=24) {ps:List (List UInt8×Nat)} (hx:Xr (XP l) ks ps): ∀j,j<ks.length-> ∃q:Nat,ks.getD j 0=(q:Int)/\q<l.length/\Qg l q 24 ((ps.getD j ([],0)).2:Int) (ps.getD j ([],0)).1 []/\Gu (ps.getD j ([],0)):=by
 intro j hj;have hm:=hks _ (Ll hj);have hX:=Nn (d:=(([],0):List UInt8×Nat)) hx j hj;have hk:=H.kid hi hm.1;obtain ⟨q,hq⟩: ∃q:Nat,ks.getD j 0=(q:Int):=⟨(ks.getD j 0).toNat,by omega⟩;rw [hq]at hX hm hk;have Vm:q<l.length:=by omega
 obtain ⟨s,m,h1,h2,h3,ha,hY⟩:=H.k24 Vm (by show (nd l q).kind=24;exact hm.2);rw [hX.one hY];exact ⟨q,hq,Vm,ha,h1,h2,h3⟩
theorem Qda (a:Option Addr) (c n:Nat) (l:List Nd) (w:World) (hn:n=l.length) (hf:n<=1000000) (hc:n<=c) (hN:Nodes w a l) (hP:Jf w) (Dn: ∀j,j<l.length->(nd l j).n<=9223372036854775807):
  Calls prog 6 #[.slice a n c] w (Qqa l w):=by
 have HR:=Qa (Qnd a c n l w hn hP.tabs hN (by omega));have HN:=Qa hN;have HP:=Qa hP;have Q0:=Qa hn;have Bv:=Qa Dn;clear hN hP hn Dn;go_enter func6,ntmps6;rw [Vk 3,Vk 4,Vk 5];go_wp2_with fail;refine HR.out.mono ?_;rintro e w1 ⟨b,rfl,hiff,hb1⟩;have HB1:=Qa hb1;have Zr:=Qa hiff;clear hb1 hiff;cases b with
 |false=>
  have D7:Hid (¬Wh l):=λh=>by cases Zr.out.2 h
  go_wp2_with fail;exact bodyPost_ret (v:=.tuple #[.string ⟨#[]⟩,.bool false]) (by simp [results,results6,go_sem]) rfl ⟨HB1.out,.inr ⟨D7.out,rfl⟩⟩
 |true=>
  have D8:Hid (Wh l):=Zr.out.1 rfl;have hpos:0<n:=by rw [Q0.out];exact D8.out.1.1.1
  obtain ⟨p,rfl⟩: ∃p,n=p+1:=⟨n-1,by omega⟩;have hpl:p<l.length:=by rw [<-Q0.out];omega
  have K4:Hid (l.length-1=p):=by show _=_;rw [<-Q0.out,Nat.add_sub_cancel]
  have Xx:=Qa (Qo.of D8.out.1 Bv.out);obtain ⟨ks,fs,Fj,hat,Ma,hX,Dy⟩:=Xx.out.k26 hpl (by rw [<-K4.out];exact D8.out.2);have HAT:=Qa hat;have Ra:=Qa Ma;have HX:=Qa hX;have HXR:=Qa Dy;have HLEN:Hid ((Yx fs).length<=3000000000000):=by have h1:(Dv fs).size=sz l p:=Dy.z;have h2:=O9 D8.out.1.1;rw [K4.out]at h2;have h3:Y0 (fs.map Wd.part)+1=(Dv fs).size:=rfl;have h5:=Q0.out;have h4:=Uu fs 1000000 2000060 Dy.fin.fns (by omega) rfl;have h6:2000060*Y0 (fs.map Wd.part)<=2000060*1000000:=Nat.mul_le_mul_left _ (by omega);show _<=_;omega
  obtain ⟨m,hm⟩:=Qb ks.length;have HM:Hid (ks.length=m):=hm.symm;have Kl:Hid (fs.length=m):=by rw [hm];exact (Cw hX).symm
  have Ru:m<=200:=by omega
  clear hat Ma hX Dy hm Fj;go_wp2_with fail;refine Vp ?_;go_wp2_with fail;obtain ⟨ob,Cu⟩:=Qb w1.heap.size;obtain ⟨w2,hw2⟩:=Qb (w1.alloc (.cells #[.pointer none,.slice none 0 0] 39));have U4:Hid (Below w1.heap.size w1 w2):=by rw [hw2];exact Qn
  have Qog:Hid (Bd w1.heap.size ob [] w2):=by rw [Cu];exact Qef (by rw [hw2];exact Held.new w1 _ _)
  rw [<-hw2,<-Cu];clear hw2 Cu;have G6:=Qa (HN.out.below HB1.out);have Od:=Qa (HP.out.below HB1.out);refine Vp ?_;go_wp2_with fail;refine (Qor (c:=c) G6.out Q0.out (by omega) hc Xx.out Od.out U4.out Qog.out).mono ?_;rintro e w3 ⟨V3,V7,Vz,V5,lb,xb,sb,eb,rfl,Qy,hb3⟩;have Qj:=Qa Qy;have Wn:Hid (Below w1.heap.size w1 w3):=U4.out.trans (hb3.mono U4.out.size);clear Qy hb3;have Gm:Hid (Ya ⟨w1,a,l,p+1,c,ob,V3,V7,Vz,V5⟩ [] w3):=Qj.out.ee;obtain ⟨nb,no,ka,kc,at_,Rv⟩:=Zx Gm.out HAT.out;have Dl:=Qa Rv;have ha:a=some ⟨nb,no,none⟩:=Rv.base;subst ha;obtain ⟨c0,c1,c2,c3,c4⟩:=Dl.out.cells _ w3 Gm.out;rw [HM.out]at c1;have hpi:(p:Int)<(p:Int)+1:=by omega
  have hwp:IntKind.i64.wrap (p:Int)=(p:Int):=Go.IntWalk.i64_in _ (by omega);clear Rv c0 c2 c3 c4;go_wp2_with fail;refine Vp ?_;go_wp2_with fail;clear c1;go_loopw [7,8,9,23] (λ_ _ _ v wr=> ∃j:Nat,j<=m/\v= .int .i64 (j:Int)/\Hid (X0 ⟨⟨w1,some ⟨nb,no,none⟩,l,p+1,c,ob,V3,V7,Vz,V5⟩,lb,xb,sb,eb⟩ (Yx (fs.take j)) wr)/\Hid (Qc w1.heap.size ob w3 wr)) (λ_ _ _ v _=>m-(intOf v).toNat)
  case atStart=>exact ⟨0,by omega,rfl,(by rw [List.take_zero,Yx];exact Qj),Qa (Qc.refl _ _ _)⟩
  case round=>
   obtain ⟨j,hj,rfl,Df,HKr⟩:=hrel;by_cases hjm:j<m
   ·have Bp:(j:Int)<(m:Int):=(by omega);obtain ⟨kb,ko,hka,hkc⟩:=Dl.out.kids (by rw [HM.out];omega);obtain ⟨q,hq⟩: ∃q:Nat,ks.getD j 0=(q:Int):=by have:=Xx.out.kid hpl (k:=ks.getD j 0) (by rw [HAT.out.ks];exact Ll (by rw [HM.out];exact hjm));exact ⟨(ks.getD j 0).toNat,by omega⟩
    have hmem:ks.getD j 0∈ks:=Ll (by rw [HM.out];exact hjm);have Vm:q<l.length:=by have:=Xx.out.kid hpl (k:=ks.getD j 0) (by rw [HAT.out.ks];exact hmem);omega
    have ck:=hkc _ wr Df.out.ee j (q:Int) (by rw [<-hq];exact Nt (by rw [HM.out];exact hjm));have Fv:=Nn (d:=(⟨[],[],0,[]⟩:Wd)) HX.out j (by rw [HM.out];exact hjm);rw [hq]at Fv;obtain ⟨s,kd,qs,bq,ps,body,hs,hk1,hk3,h8,Ce,Le,Gv,hps,hbody,Lx⟩:=Xx.out.k25 Vm (by have:=Ra.out _ hmem;rw [hq]at this;exact this);have Fb:Hid (Yx (fs.take (j+1))=Yx (fs.take j)++(Wd.mk s ps kd body).txt):=by show _=_;rw [Qf1 (by rw [Kl.out];exact hjm),Fv.one Lx]
    have Yw:=Qa (Tf fs (j+1));have Qe:Hid ((Wd.mk s ps kd body).txt=([102,110,32]++s++[40]++Yu true ps++[41,32]++Zz kd++[32])++Ww body 0++[10]):=(by show _=_;unfold Wd.txt;simp [Fa]);obtain ⟨fnb,fno,Gi,Ae,H6,Mc⟩:=Zx Df.out.ee Ce;obtain ⟨J8,J7,rfl,Ci⟩:=Mc.kids (by rw [Qd,Ef];omega);have e1:nb=fnb/\no=fno:=by
     have:=Mc.base;injection this with this
     injection this with x1 x2
     exact ⟨x1,x2⟩
    obtain ⟨e1,e2⟩:=e1;subst e1 e2;obtain ⟨c0,c1,c2,c3,c4⟩:=Mc.cells _ wr Df.out.ee;obtain ⟨r,hr⟩:=Qb qs.length;have hlen:(qs++[bq]).length=r+1:=(by rw [Qd,Ef,hr]);rw [hlen]at c1;have Qsj:r+1<=Ae:=(by rw [<-hlen];exact Mc.cap);obtain ⟨u,hu⟩: ∃u:Nat,bq=(u:Int):=by have:=Xx.out.kid Vm (k:=bq) (by rw [Ce.ks];simp);exact ⟨bq.toNat,by omega⟩
    have hul:u<l.length:=by have:=Xx.out.kid Vm (k:=bq) (by rw [Ce.ks];simp);omega
    have HKU:Hid (∀t' w',Ya ⟨w1,some ⟨nb,no,none⟩,l,p+1,c,ob,V3,V7,Vz,V5⟩ t' w'->w'.cell? ⟨J8,J7+r,none⟩=some (.int .i64 (u:Int))):=λt' w' h=>Ci t' w' h r (u:Int) (by rw [H8 (by omega),hr,Nat.sub_self,hu];rfl);have Ta:=Qa (Qcc Xx.out Vm (λk hk=>⟨by rw [Ce.ks];exact List.mem_append_left _ hk,Le k hk⟩) hps);have Qqe:Hid (∀t' w',Ya ⟨w1,some ⟨nb,no,none⟩,l,p+1,c,ob,V3,V7,Vz,V5⟩ t' w'->Wo .i64 w' (some ⟨J8,J7,none⟩) r (λj=>qs.getD j 0)):=by intro t' w' h hp;have hcell: ∀j,j<r->w'.cell? ⟨J8,J7+j,none⟩=some (.int .i64 (qs.getD j 0)):=λj hj=>Ci t' w' h j _ (by rw [R8 (by omega),Nt (by omega)]);exact ⟨J8,J7,rfl,block_lt_of_cell (hcell 0 hp),hcell⟩
    have hr8:r<=8:=(by rw [hr];exact h8);have Qbk:Hid (ps.length=r):=(by rw [hr];exact (Cw hps).symm);obtain ⟨PB,Pb⟩:=Qb (⟨(Yu true ps).toArray⟩:ByteArray);obtain ⟨KB,Nz⟩:=Qb (⟨(Zz kd).toArray⟩:ByteArray);obtain ⟨SB,Mq⟩:=Qb (⟨s.toArray⟩:ByteArray);have R9:Hid (PB.data.toList=Yu true ps/\KB.data.toList=Zz kd/\SB.data.toList=s):=(by rw [Pb,Nz,Mq];exact ⟨rfl,rfl,rfl⟩);have hsbz:SB.size<=32:=(by rw [Mq,Wj];exact hs.short);have Qp2:KB.size<=4:=(by rw [Nz,Wj];exact Nq _);have Qsw:PB.size<=10000:=by
     rw [Pb,Wj];have h1:=M0 ps (λq hq=>by obtain ⟨k,hk⟩:=G7 hps q hq;exact hk.fin) true;have h2: ∀qs:List (List UInt8×Nat),Y0 (qs.map J6)=qs.length:=λqs=>by
      induction qs with
      |nil=>rfl
      |cons q qs ih=>show (J6 q).size+Y0 (qs.map J6)=qs.length+1;rw [ih];show 0+1+qs.length=_;omega
     rw [h2,Qbk.out]at h1;omega
    have HPC:Hid (∀t' w',Ya ⟨w1,some ⟨nb,no,none⟩,l,p+1,c,ob,V3,V7,Vz,V5⟩ t' w'->Calls prog 16 #[.slice (some ⟨nb,no,none⟩) (p+1) c,.slice (some ⟨J8,J7,none⟩) r Ae] w' λe w''=>e= .returned (.string PB)/\Below w'.heap.size w' w''):=by intro t' w' h;rw [Pb];exact Qm1 Q0.out hf (h.nodes.below h.below) (h.tabs.below h.below) hr hr8 (Qqe.out t' w' h) Qbk.out (by rw [hr];exact Ta.out)
    have Ye:Hid (∀t' w',Ya ⟨w1,some ⟨nb,no,none⟩,l,p+1,c,ob,V3,V7,Vz,V5⟩ t' w'->Calls prog 17 #[.int .i64 (kd:Int)] w' λe w''=>e= .returned (.string KB)/\Below w'.heap.size w' w''):=by intro t' w' h;rw [Nz];refine (P5 (kd:Int) w' (h.tabs.below h.below).tabs).mono ?_;rintro e w'' ⟨he,hw⟩;rw [Tj hk3]at he;exact ⟨he,by rw [hw];exact Below.refl _ _⟩
    have Xq:=Qa ((Qjl (Q:=⟨⟨w1,some ⟨nb,no,none⟩,l,p+1,c,ob,V3,V7,Vz,V5⟩,lb,xb,sb,eb⟩) Xx.out (u+1) u (by omega) hul).2 (by show (nd l u).kind=23;rw [hu]at Gv;exact Gv) body (by rw [hu]at hbody;exact hbody) 0);rw [<-Mq]at c3;obtain ⟨kI,hkI⟩:=Qb ((kd:Int):Int);rw [<-hkI]at c2 Ye;have D9:(q:Int)<(p:Int)+1:=(by have:=Q0.out;omega);have hrw:IntKind.i64.wrap (r:Int)=(r:Int):=Go.IntWalk.i64_in _ (by omega);rw [hka];have Vo:=Qa hka;clear hka hkc hq hmem Fv hs hk1 hk3 h8 Ce Le Gv hps hbody Lx Mc Ci hlen hr hu hul Pb Nz Mq hkI Vm;go_wp2_with fail;obtain ⟨wB,Nc⟩:=Qb (wr.alloc (.cells #[.int .i64 25,.slice (some ⟨J8,J7,none⟩) (r+1) Ae,.int .i64 kI,.string SB,.int .i64 H6] 25));obtain ⟨xn,hxn⟩:=Qb wr.heap.size;have X3:Hid (Below wr.heap.size wr wB):=(by rw [Nc];exact Qn);have Ii:Hid (Held wB xn 25 #[.int .i64 25,.slice (some ⟨J8,J7,none⟩) (r+1) Ae,.int .i64 kI,.string SB,.int .i64 H6]):=(by rw [Nc,hxn];exact Held.new wr _ _);have Qh2:ob<wr.heap.size:=Df.out.ee.bd.lt;have Qm:Hid (xn≠ob):=(by show _≠_;omega);clear Qh2;rw [<-Nc,<-hxn];have Gt:=Qa (Df.out.since X3.out);have Qrb:Hid (Qc w1.heap.size ob w3 wB):=HKr.out.trans (.of Df.out.ee.bd.size X3.out);clear Nc hxn c0 c1 c2 c3 c4 ck;have r0:=cell_regrown (Ii.out.at_ (j:=0) (v:=.int .i64 25) rfl);have r1:=cell_regrown (Ii.out.at_ (j:=1) (v:=.slice (some ⟨J8,J7,none⟩) (r+1) Ae) rfl);have r2:=cell_regrown (Ii.out.at_ (j:=2) (v:=.int .i64 kI) rfl);have r3:=cell_regrown (Ii.out.at_ (j:=3) (v:=.string SB) rfl);have rH:=cell_regrown (show wB.cell? ⟨0,25,none⟩=some (.string ⟨([102,110,32]:List UInt8).toArray⟩)from Wv (Wm Gt.out.ee.tabs.heads Gt.out.ee.below) (Z0 25 (by decide)));have Ph: ∀d os,Calls prog 16 #[.slice (some ⟨nb,no,none⟩) (p+1) c,.slice (some ⟨J8,J7,none⟩) r Ae] (Sort.grow (redrawn wB d) os) λe w''=>e= .returned (.string PB)/\ ∃q:Regrown,w''=Sort.grow (redrawn wB q.d) q.os:=λd os=>Calls.regrown_of (HPC.out _ _ (Gt.out.ee.since (below_regrown wB d os)));have R5: ∀d os,Calls prog 17 #[.int .i64 kI] (Sort.grow (redrawn wB d) os) λe w''=>e= .returned (.string KB)/\ ∃q:Regrown,w''=Sort.grow (redrawn wB q.d) q.os:=λd os=>Calls.regrown_of (Ye.out _ _ (Gt.out.ee.since (below_regrown wB d os)));refine Qqv 21 (by kernel_rfl) (by kernel_rfl) ?_;simp only [List.take_succ_cons,List.take_zero,List.drop_succ_cons,List.drop_zero]
    repeat (any_goals (first |go_big_quiet_step (first |exact Ph _ _ |exact R5 _ _) |quiet_step (first |exact Ph _ _ |exact R5 _ _)))
    refine wpQuiet_nil ?_;intro w' hw';obtain ⟨⟨dq,osq⟩,hw''⟩:=hw';obtain ⟨wC,Si⟩:=Qb (Sort.grow (redrawn wB dq) osq);have Pv:Hid (Below wB.heap.size wB wC):=(by rw [Si];exact below_regrown wB dq osq);rw [hw'',<-Si];clear hw'' Si r0 r1 r2 r3 rH Ph R5;have HEC:=Qa (Gt.out.since Pv.out);have HHC:=Qa (Ii.out.since Pv.out);have Qpf:Hid (Qc w1.heap.size ob w3 wC):=Qrb.out.trans (.of Gt.out.ee.bd.size Pv.out);go_wp2_with fail;refine (Xb _ ([102,110,32]++s++[40]++Yu true ps++[41,32]++Zz kd++[32]) (by simp [R9.out.1,R9.out.2.1,R9.out.2.2]) HEC.out.ee.bd (by have h1:=HLEN.out;have h2:=Yw.out;rw [Fb.out,Qe.out]at h2;simp only [Qd,Qf,Qk]at h2 ⊢;omega)).mono ?_;rintro e wD ⟨rfl,heD,Nj⟩;have Z7:=Qa (HEC.out.keep Nj heD);have Yq:Hid (Qc w1.heap.size ob w3 wD):=Qpf.out.trans Nj;have Bl:=Qa (Nj.held HHC.out Qm.out (by decide));clear heD Nj;have c1:=Bl.out.at_ (j:=1) (v:=.slice (some ⟨J8,J7,none⟩) (r+1) Ae) rfl;have cu:=HKU.out _ wD Z7.out.ee;have hri:(r:Int)<(r:Int)+1:=(by omega);go_wp2_with fail;refine (Xq.out _ _ Z7.out (by have h1:=HLEN.out;have h2:=Yw.out;rw [Fb.out,Qe.out]at h2;simp only [Qd,Qf,Qk]at h2 ⊢;omega)).mono ?_;rintro e wE ⟨rfl,heE,hkE⟩;have Qcf:=Qa heE;have HKE:Hid (Qc w1.heap.size ob w3 wE):=Yq.out.trans hkE;clear heE hkE c1 cu;go_wp2_with fail;refine (Yb [10] Qcf.out.ee.bd (by have h1:=HLEN.out;have h2:=Yw.out;rw [Fb.out,Qe.out]at h2;simp only [Qd,Qf,Qk]at h2 ⊢;omega)).mono ?_;rintro e wF ⟨rfl,heF,Rn⟩;have HEF:=Qa (Qcf.out.keep Rn heF);have Qp9:Hid (Qc w1.heap.size ob w3 wF):=HKE.out.trans Rn;clear heF Rn;have Jr:Hid (X0 ⟨⟨w1,some ⟨nb,no,none⟩,l,p+1,c,ob,V3,V7,Vz,V5⟩,lb,xb,sb,eb⟩ (Yx (fs.take (j+1))) wF):=by have h9:=HEF.out;show X0 _ _ _;rw [Fb.out,Qe.out];simp only [Yg]at h9 ⊢;exact h9
    go_wp2_with fail;go_roundw
    case rel=>exact ⟨j+1,by omega,by go_num,Jr,Qp9⟩
    case measure=>simp [intOf];omega
   ·have HJ:Hid (fs.take j=fs):=(by show _=_;rw [Ac (by rw [Kl.out];omega)]);rw [HJ.out]at Df;have Xu:Hid (Below w.heap.size w wr):=HB1.out.trans ((Wn.out.trans HKr.out.below).mono HB1.out.size);go_wp2_with fail;refine (Tryd.Builder_String_any_k w1.heap.size ob (Yx fs) wr Df.out.ee.bd Df.out.ee.bd.size).mono ?_;rintro e w6 ⟨rfl,_,hb6,_⟩;have Cm:Hid (Below w.heap.size w w6):=Xu.out.trans (hb6.mono HB1.out.size);clear hb6;go_wp2_with fail;exact bodyPost_ret (v:=.tuple #[.string ⟨(Yx fs).toArray⟩,.bool true]) (by simp [results,results6,go_sem]) rfl ⟨Cm.out,.inl ⟨D8.out,fs,by rw [K4.out];exact HXR.out,rfl⟩⟩
end
end Go.Proofs.YtdncpkkhkbijfaaDoor
