/- 11.1: the empty table's mark, block by block. -/
import Derived.Test.YtlfeholphngilaaDoorMd5F
namespace Go.Proofs.YtlfeholphngilaaDoor
set_option linter.unusedVariables false

/-- 64 noughts. -/
def zero64 : List UInt8 := [0, 0, 0, 0, 0, 0, 0, 0, 0, 0, 0, 0, 0, 0, 0, 0, 0, 0, 0, 0, 0, 0, 0, 0, 0, 0, 0, 0, 0, 0, 0, 0, 0, 0, 0, 0, 0, 0, 0, 0, 0, 0, 0, 0, 0, 0, 0, 0, 0, 0, 0, 0, 0, 0, 0, 0, 0, 0, 0, 0, 0, 0, 0, 0]
def eqQ (x y : Q4) : Bool := x.a == y.a && (x.b == y.b && (x.c == y.c && x.d == y.d))
theorem eqQ_of {x y : Q4} (h : eqQ x y = true) : x = y := by
  cases x; cases y
  simpa [eqQ] using h
def iterG (B : Q4 → Q4) : Nat → Q4 → Q4
  | 0, h => h
  | k + 1, h => iterG B k (B h)
theorem iterG_zero (B : Q4 → Q4) (h : Q4) : iterG B 0 h = h := rfl
theorem iterG_succ (B : Q4 → Q4) (k : Nat) (h : Q4) : iterG B (k + 1) h = iterG B k (B h) := rfl
theorem iterG_step (B : Q4 → Q4) (k : Nat) {x y : Q4} (h : B x = y) : iterG B (k + 1) x = iterG B k y := by
  rw [iterG_succ, h]
def zB (h : Q4) : Q4 := blockN zero64 0 h
theorem zb0 : zB ⟨1804537449, 2744016222, 3726167250, 3886510873⟩ = ⟨2066754007, 1425136707, 475347548, 1228638169⟩ := eqQ_of (by decide +kernel)
theorem zb1 : zB ⟨2066754007, 1425136707, 475347548, 1228638169⟩ = ⟨1648550465, 3591591931, 242107971, 1976012830⟩ := eqQ_of (by decide +kernel)
theorem zb2 : zB ⟨1648550465, 3591591931, 242107971, 1976012830⟩ = ⟨1478790685, 990640578, 4062653742, 2429625008⟩ := eqQ_of (by decide +kernel)
theorem zb3 : zB ⟨1478790685, 990640578, 4062653742, 2429625008⟩ = ⟨2804430343, 1676550240, 1693644763, 1257255140⟩ := eqQ_of (by decide +kernel)
theorem zb4 : zB ⟨2804430343, 1676550240, 1693644763, 1257255140⟩ = ⟨194576737, 3688127194, 914538443, 714280664⟩ := eqQ_of (by decide +kernel)
theorem zb5 : zB ⟨194576737, 3688127194, 914538443, 714280664⟩ = ⟨38458486, 1648083430, 4282983950, 3086161290⟩ := eqQ_of (by decide +kernel)
theorem zb6 : zB ⟨38458486, 1648083430, 4282983950, 3086161290⟩ = ⟨3348227884, 2509759565, 4029358125, 2589306997⟩ := eqQ_of (by decide +kernel)
theorem zb7 : zB ⟨3348227884, 2509759565, 4029358125, 2589306997⟩ = ⟨1777917007, 42609117, 3246862521, 1002310276⟩ := eqQ_of (by decide +kernel)
theorem zb8 : zB ⟨1777917007, 42609117, 3246862521, 1002310276⟩ = ⟨3551441015, 2873656472, 1529291100, 3029543928⟩ := eqQ_of (by decide +kernel)
theorem zb9 : zB ⟨3551441015, 2873656472, 1529291100, 3029543928⟩ = ⟨759095406, 235559442, 4132251949, 948286127⟩ := eqQ_of (by decide +kernel)
theorem zb10 : zB ⟨759095406, 235559442, 4132251949, 948286127⟩ = ⟨177542762, 3553531499, 4131948458, 3940341043⟩ := eqQ_of (by decide +kernel)
theorem zb11 : zB ⟨177542762, 3553531499, 4131948458, 3940341043⟩ = ⟨2623573496, 1941288760, 1109909582, 932397859⟩ := eqQ_of (by decide +kernel)
theorem zb12 : zB ⟨2623573496, 1941288760, 1109909582, 932397859⟩ = ⟨2975457559, 2153883949, 2087551063, 899130040⟩ := eqQ_of (by decide +kernel)
theorem zb13 : zB ⟨2975457559, 2153883949, 2087551063, 899130040⟩ = ⟨2474954081, 1065401177, 1807038403, 3562208917⟩ := eqQ_of (by decide +kernel)
theorem zb14 : zB ⟨2474954081, 1065401177, 1807038403, 3562208917⟩ = ⟨826818671, 1532870878, 3395545661, 1771619247⟩ := eqQ_of (by decide +kernel)
theorem zb15 : zB ⟨826818671, 1532870878, 3395545661, 1771619247⟩ = ⟨1279473150, 1621163175, 3583684731, 1936765997⟩ := eqQ_of (by decide +kernel)
theorem zb16 : zB ⟨1279473150, 1621163175, 3583684731, 1936765997⟩ = ⟨495172682, 552220700, 1821369220, 557937291⟩ := eqQ_of (by decide +kernel)
theorem zb17 : zB ⟨495172682, 552220700, 1821369220, 557937291⟩ = ⟨1745738097, 3738061767, 3470488930, 21686685⟩ := eqQ_of (by decide +kernel)
theorem zb18 : zB ⟨1745738097, 3738061767, 3470488930, 21686685⟩ = ⟨2689918617, 596174551, 1543217421, 1430103959⟩ := eqQ_of (by decide +kernel)
theorem zb19 : zB ⟨2689918617, 596174551, 1543217421, 1430103959⟩ = ⟨1328610484, 4106734419, 2312810389, 4239020397⟩ := eqQ_of (by decide +kernel)
theorem zb20 : zB ⟨1328610484, 4106734419, 2312810389, 4239020397⟩ = ⟨2246057275, 1690452137, 3629631769, 1677733143⟩ := eqQ_of (by decide +kernel)
theorem zb21 : zB ⟨2246057275, 1690452137, 3629631769, 1677733143⟩ = ⟨3233163340, 1837661341, 3217214930, 3187339487⟩ := eqQ_of (by decide +kernel)
theorem zb22 : zB ⟨3233163340, 1837661341, 3217214930, 3187339487⟩ = ⟨3833441359, 3206250657, 3039610718, 3641109567⟩ := eqQ_of (by decide +kernel)
theorem zb23 : zB ⟨3833441359, 3206250657, 3039610718, 3641109567⟩ = ⟨2279156160, 4062081609, 1604097969, 1752359771⟩ := eqQ_of (by decide +kernel)
theorem zb24 : zB ⟨2279156160, 4062081609, 1604097969, 1752359771⟩ = ⟨2557919460, 3424349627, 3537517299, 2821102885⟩ := eqQ_of (by decide +kernel)
theorem zb25 : zB ⟨2557919460, 3424349627, 3537517299, 2821102885⟩ = ⟨3743503804, 217857045, 4277063848, 2416731622⟩ := eqQ_of (by decide +kernel)
theorem zb26 : zB ⟨3743503804, 217857045, 4277063848, 2416731622⟩ = ⟨66274293, 1777501489, 4287080913, 3267934534⟩ := eqQ_of (by decide +kernel)
theorem zb27 : zB ⟨66274293, 1777501489, 4287080913, 3267934534⟩ = ⟨400311482, 1274682024, 3138650001, 527598565⟩ := eqQ_of (by decide +kernel)
theorem zb28 : zB ⟨400311482, 1274682024, 3138650001, 527598565⟩ = ⟨925714817, 3162951647, 3563006761, 988692837⟩ := eqQ_of (by decide +kernel)
theorem zb29 : zB ⟨925714817, 3162951647, 3563006761, 988692837⟩ = ⟨2035895909, 3103519408, 2417279572, 47168882⟩ := eqQ_of (by decide +kernel)
theorem zb30 : zB ⟨2035895909, 3103519408, 2417279572, 47168882⟩ = ⟨2853103359, 3271620360, 1161857056, 2261613363⟩ := eqQ_of (by decide +kernel)
theorem zb31 : zB ⟨2853103359, 3271620360, 1161857056, 2261613363⟩ = ⟨1206059698, 1318362676, 2863094087, 1001060550⟩ := eqQ_of (by decide +kernel)
theorem zb32 : zB ⟨1206059698, 1318362676, 2863094087, 1001060550⟩ = ⟨2278901479, 1759327422, 2267895283, 2584244192⟩ := eqQ_of (by decide +kernel)
theorem zb33 : zB ⟨2278901479, 1759327422, 2267895283, 2584244192⟩ = ⟨632977434, 266294926, 1460346381, 3623035811⟩ := eqQ_of (by decide +kernel)
theorem zb34 : zB ⟨632977434, 266294926, 1460346381, 3623035811⟩ = ⟨1784912440, 3385240481, 645776689, 1595380669⟩ := eqQ_of (by decide +kernel)
theorem zb35 : zB ⟨1784912440, 3385240481, 645776689, 1595380669⟩ = ⟨1618599292, 1010746469, 2407991723, 3592294537⟩ := eqQ_of (by decide +kernel)
theorem zb36 : zB ⟨1618599292, 1010746469, 2407991723, 3592294537⟩ = ⟨72370421, 4137729402, 624341392, 244268713⟩ := eqQ_of (by decide +kernel)
theorem zb37 : zB ⟨72370421, 4137729402, 624341392, 244268713⟩ = ⟨3687640608, 588395245, 1822162382, 87808417⟩ := eqQ_of (by decide +kernel)
theorem zb38 : zB ⟨3687640608, 588395245, 1822162382, 87808417⟩ = ⟨3341151722, 3202351353, 2199697195, 220921437⟩ := eqQ_of (by decide +kernel)
theorem zb39 : zB ⟨3341151722, 3202351353, 2199697195, 220921437⟩ = ⟨3129253655, 1174360138, 857299928, 3193290354⟩ := eqQ_of (by decide +kernel)
theorem zb40 : zB ⟨3129253655, 1174360138, 857299928, 3193290354⟩ = ⟨2123489430, 456422581, 466330523, 3568611060⟩ := eqQ_of (by decide +kernel)
theorem zb41 : zB ⟨2123489430, 456422581, 466330523, 3568611060⟩ = ⟨1299087444, 326478510, 206197745, 3092534775⟩ := eqQ_of (by decide +kernel)
theorem zb42 : zB ⟨1299087444, 326478510, 206197745, 3092534775⟩ = ⟨118353277, 2124287924, 3502988552, 2422985325⟩ := eqQ_of (by decide +kernel)
theorem zb43 : zB ⟨118353277, 2124287924, 3502988552, 2422985325⟩ = ⟨1170837305, 2741977868, 3234762662, 2551199260⟩ := eqQ_of (by decide +kernel)
theorem zb44 : zB ⟨1170837305, 2741977868, 3234762662, 2551199260⟩ = ⟨1827931900, 1800252945, 504238478, 2671457566⟩ := eqQ_of (by decide +kernel)
theorem zb45 : zB ⟨1827931900, 1800252945, 504238478, 2671457566⟩ = ⟨4185297798, 1152881921, 304484998, 3420002349⟩ := eqQ_of (by decide +kernel)
theorem zb46 : zB ⟨4185297798, 1152881921, 304484998, 3420002349⟩ = ⟨3821465105, 3823824326, 2643046523, 1200183053⟩ := eqQ_of (by decide +kernel)
theorem zb47 : zB ⟨3821465105, 3823824326, 2643046523, 1200183053⟩ = ⟨713325390, 55769045, 667044837, 4148461601⟩ := eqQ_of (by decide +kernel)
theorem zb48 : zB ⟨713325390, 55769045, 667044837, 4148461601⟩ = ⟨1000305173, 1516189556, 281163816, 2240168876⟩ := eqQ_of (by decide +kernel)
theorem zb49 : zB ⟨1000305173, 1516189556, 281163816, 2240168876⟩ = ⟨920748196, 3602130213, 2158388766, 2015710027⟩ := eqQ_of (by decide +kernel)
theorem zb50 : zB ⟨920748196, 3602130213, 2158388766, 2015710027⟩ = ⟨3133152364, 1520738402, 2137258863, 2136978360⟩ := eqQ_of (by decide +kernel)
theorem zb51 : zB ⟨3133152364, 1520738402, 2137258863, 2136978360⟩ = ⟨2302520978, 2541531461, 3818374705, 2954404071⟩ := eqQ_of (by decide +kernel)
theorem zb52 : zB ⟨2302520978, 2541531461, 3818374705, 2954404071⟩ = ⟨1223765218, 1766968184, 2297391650, 4290598058⟩ := eqQ_of (by decide +kernel)
theorem zb53 : zB ⟨1223765218, 1766968184, 2297391650, 4290598058⟩ = ⟨1324037257, 2533923034, 2512583373, 1782785201⟩ := eqQ_of (by decide +kernel)
theorem zb54 : zB ⟨1324037257, 2533923034, 2512583373, 1782785201⟩ = ⟨3396999519, 3883110433, 883330530, 759436149⟩ := eqQ_of (by decide +kernel)
theorem zb55 : zB ⟨3396999519, 3883110433, 883330530, 759436149⟩ = ⟨4021131404, 2316205374, 3706129591, 3385924485⟩ := eqQ_of (by decide +kernel)
theorem zb56 : zB ⟨4021131404, 2316205374, 3706129591, 3385924485⟩ = ⟨4101367381, 2802091048, 2706674568, 4095904230⟩ := eqQ_of (by decide +kernel)
theorem zb57 : zB ⟨4101367381, 2802091048, 2706674568, 4095904230⟩ = ⟨3722401478, 3049934550, 4121707152, 117482141⟩ := eqQ_of (by decide +kernel)
theorem zb58 : zB ⟨3722401478, 3049934550, 4121707152, 117482141⟩ = ⟨3889982826, 3288217638, 3218210930, 3184505390⟩ := eqQ_of (by decide +kernel)
theorem zb59 : zB ⟨3889982826, 3288217638, 3218210930, 3184505390⟩ = ⟨2641512303, 1212298729, 3356778549, 1372167900⟩ := eqQ_of (by decide +kernel)
theorem zb60 : zB ⟨2641512303, 1212298729, 3356778549, 1372167900⟩ = ⟨3585681488, 4160978801, 3768645185, 967745490⟩ := eqQ_of (by decide +kernel)
theorem zb61 : zB ⟨3585681488, 4160978801, 3768645185, 967745490⟩ = ⟨208812213, 459208543, 4267226339, 2849709475⟩ := eqQ_of (by decide +kernel)
theorem zb62 : zB ⟨208812213, 459208543, 4267226339, 2849709475⟩ = ⟨3728354077, 1946132572, 3714408358, 2574557052⟩ := eqQ_of (by decide +kernel)
theorem zb63 : zB ⟨3728354077, 1946132572, 3714408358, 2574557052⟩ = ⟨128898534, 1679054391, 1527298631, 2106294425⟩ := eqQ_of (by decide +kernel)
theorem zb64 : zB ⟨128898534, 1679054391, 1527298631, 2106294425⟩ = ⟨2470505631, 1764410773, 3550553223, 3301954783⟩ := eqQ_of (by decide +kernel)
theorem zb65 : zB ⟨2470505631, 1764410773, 3550553223, 3301954783⟩ = ⟨1915744191, 3519215423, 1767873856, 31887084⟩ := eqQ_of (by decide +kernel)
theorem zb66 : zB ⟨1915744191, 3519215423, 1767873856, 31887084⟩ = ⟨4251750002, 3749025073, 203673888, 950819356⟩ := eqQ_of (by decide +kernel)
theorem zb67 : zB ⟨4251750002, 3749025073, 203673888, 950819356⟩ = ⟨673482720, 1266784992, 4089769621, 480273082⟩ := eqQ_of (by decide +kernel)
theorem zb68 : zB ⟨673482720, 1266784992, 4089769621, 480273082⟩ = ⟨2222595131, 2571770884, 4186723748, 4077719491⟩ := eqQ_of (by decide +kernel)
theorem zb69 : zB ⟨2222595131, 2571770884, 4186723748, 4077719491⟩ = ⟨2067474962, 939092738, 63656287, 1026890840⟩ := eqQ_of (by decide +kernel)
theorem zb70 : zB ⟨2067474962, 939092738, 63656287, 1026890840⟩ = ⟨949956467, 3655601567, 3030424884, 1160292445⟩ := eqQ_of (by decide +kernel)
theorem zb71 : zB ⟨949956467, 3655601567, 3030424884, 1160292445⟩ = ⟨3043463756, 2052763731, 3668326729, 80902552⟩ := eqQ_of (by decide +kernel)
theorem zb72 : zB ⟨3043463756, 2052763731, 3668326729, 80902552⟩ = ⟨3891456967, 4153022267, 3461061365, 2183641064⟩ := eqQ_of (by decide +kernel)
theorem zb73 : zB ⟨3891456967, 4153022267, 3461061365, 2183641064⟩ = ⟨571357496, 1568289667, 3090224619, 13335747⟩ := eqQ_of (by decide +kernel)
theorem zb74 : zB ⟨571357496, 1568289667, 3090224619, 13335747⟩ = ⟨1937860847, 3348386633, 1324271794, 265975983⟩ := eqQ_of (by decide +kernel)
theorem zb75 : zB ⟨1937860847, 3348386633, 1324271794, 265975983⟩ = ⟨691345237, 4100170507, 3682519954, 1773505636⟩ := eqQ_of (by decide +kernel)
theorem zb76 : zB ⟨691345237, 4100170507, 3682519954, 1773505636⟩ = ⟨277226205, 3652607531, 1187516899, 122829082⟩ := eqQ_of (by decide +kernel)
theorem zb77 : zB ⟨277226205, 3652607531, 1187516899, 122829082⟩ = ⟨1883622846, 3626042827, 2702224941, 3612017104⟩ := eqQ_of (by decide +kernel)
theorem zb78 : zB ⟨1883622846, 3626042827, 2702224941, 3612017104⟩ = ⟨62295155, 1617357702, 2388703527, 3481458484⟩ := eqQ_of (by decide +kernel)
theorem zb79 : zB ⟨62295155, 1617357702, 2388703527, 3481458484⟩ = ⟨1397563088, 1353683237, 2656501592, 1878277099⟩ := eqQ_of (by decide +kernel)
theorem zb80 : zB ⟨1397563088, 1353683237, 2656501592, 1878277099⟩ = ⟨116990454, 1485602580, 221941867, 2000424531⟩ := eqQ_of (by decide +kernel)
theorem zb81 : zB ⟨116990454, 1485602580, 221941867, 2000424531⟩ = ⟨2032424633, 2730259394, 10561450, 2245973001⟩ := eqQ_of (by decide +kernel)
theorem zb82 : zB ⟨2032424633, 2730259394, 10561450, 2245973001⟩ = ⟨2935304294, 3412072477, 1101320595, 692763959⟩ := eqQ_of (by decide +kernel)
theorem zb83 : zB ⟨2935304294, 3412072477, 1101320595, 692763959⟩ = ⟨1396348014, 591170944, 3559183705, 2535792887⟩ := eqQ_of (by decide +kernel)
theorem zb84 : zB ⟨1396348014, 591170944, 3559183705, 2535792887⟩ = ⟨2624758633, 1510556288, 1536494385, 3435602790⟩ := eqQ_of (by decide +kernel)
theorem zb85 : zB ⟨2624758633, 1510556288, 1536494385, 3435602790⟩ = ⟨1534917331, 580371440, 304222945, 3370921824⟩ := eqQ_of (by decide +kernel)
theorem zb86 : zB ⟨1534917331, 580371440, 304222945, 3370921824⟩ = ⟨2491607250, 4259749526, 186339893, 202447590⟩ := eqQ_of (by decide +kernel)
theorem zb87 : zB ⟨2491607250, 4259749526, 186339893, 202447590⟩ = ⟨1757351543, 3272014059, 3769348473, 3729289589⟩ := eqQ_of (by decide +kernel)
theorem zb88 : zB ⟨1757351543, 3272014059, 3769348473, 3729289589⟩ = ⟨3610774395, 3485953564, 3178184252, 1675147110⟩ := eqQ_of (by decide +kernel)
theorem zb89 : zB ⟨3610774395, 3485953564, 3178184252, 1675147110⟩ = ⟨120538356, 672141303, 2201955885, 3076463314⟩ := eqQ_of (by decide +kernel)
theorem zb90 : zB ⟨120538356, 672141303, 2201955885, 3076463314⟩ = ⟨2566432401, 1818317997, 3010695700, 138678025⟩ := eqQ_of (by decide +kernel)
theorem zb91 : zB ⟨2566432401, 1818317997, 3010695700, 138678025⟩ = ⟨1104179181, 2493951157, 1430990321, 2940958615⟩ := eqQ_of (by decide +kernel)
theorem zb92 : zB ⟨1104179181, 2493951157, 1430990321, 2940958615⟩ = ⟨1135805002, 3007478109, 2732431073, 1074240848⟩ := eqQ_of (by decide +kernel)
theorem zb93 : zB ⟨1135805002, 3007478109, 2732431073, 1074240848⟩ = ⟨2983312599, 576903816, 1543811893, 3232856473⟩ := eqQ_of (by decide +kernel)
theorem zb94 : zB ⟨2983312599, 576903816, 1543811893, 3232856473⟩ = ⟨2012363576, 3031358869, 1780487403, 1380595444⟩ := eqQ_of (by decide +kernel)
theorem zb95 : zB ⟨2012363576, 3031358869, 1780487403, 1380595444⟩ = ⟨3593695957, 2398798696, 2454226511, 1951657517⟩ := eqQ_of (by decide +kernel)
theorem zb96 : zB ⟨3593695957, 2398798696, 2454226511, 1951657517⟩ = ⟨2749018058, 1251971970, 4120828072, 586426859⟩ := eqQ_of (by decide +kernel)
theorem zb97 : zB ⟨2749018058, 1251971970, 4120828072, 586426859⟩ = ⟨355009815, 1318707172, 2393977696, 275137147⟩ := eqQ_of (by decide +kernel)
theorem zb98 : zB ⟨355009815, 1318707172, 2393977696, 275137147⟩ = ⟨1022291315, 3080557328, 394461417, 510298627⟩ := eqQ_of (by decide +kernel)
theorem zb99 : zB ⟨1022291315, 3080557328, 394461417, 510298627⟩ = ⟨1111206539, 1962937308, 266052356, 4056874564⟩ := eqQ_of (by decide +kernel)
theorem zb100 : zB ⟨1111206539, 1962937308, 266052356, 4056874564⟩ = ⟨1334982624, 101722937, 465801031, 1345761664⟩ := eqQ_of (by decide +kernel)
theorem zb101 : zB ⟨1334982624, 101722937, 465801031, 1345761664⟩ = ⟨2548398657, 3516865444, 3881312792, 2042984271⟩ := eqQ_of (by decide +kernel)
theorem zb102 : zB ⟨2548398657, 3516865444, 3881312792, 2042984271⟩ = ⟨4208082809, 682833308, 2952364532, 3929574044⟩ := eqQ_of (by decide +kernel)
theorem zb103 : zB ⟨4208082809, 682833308, 2952364532, 3929574044⟩ = ⟨1362336725, 1088454034, 1981660459, 2376613286⟩ := eqQ_of (by decide +kernel)
theorem zb104 : zB ⟨1362336725, 1088454034, 1981660459, 2376613286⟩ = ⟨420357508, 353911712, 2126455747, 3165876037⟩ := eqQ_of (by decide +kernel)
theorem zb105 : zB ⟨420357508, 353911712, 2126455747, 3165876037⟩ = ⟨880809327, 282445791, 2315207276, 742207596⟩ := eqQ_of (by decide +kernel)
theorem zb106 : zB ⟨880809327, 282445791, 2315207276, 742207596⟩ = ⟨1533095221, 363394308, 1458175152, 4285087961⟩ := eqQ_of (by decide +kernel)
theorem zb107 : zB ⟨1533095221, 363394308, 1458175152, 4285087961⟩ = ⟨3167391697, 1856071148, 2423774116, 2835176851⟩ := eqQ_of (by decide +kernel)
theorem zb108 : zB ⟨3167391697, 1856071148, 2423774116, 2835176851⟩ = ⟨3109254318, 2522876865, 3640078137, 4092631719⟩ := eqQ_of (by decide +kernel)
theorem zb109 : zB ⟨3109254318, 2522876865, 3640078137, 4092631719⟩ = ⟨4007857, 2210962741, 1384516582, 229578316⟩ := eqQ_of (by decide +kernel)
theorem zb110 : zB ⟨4007857, 2210962741, 1384516582, 229578316⟩ = ⟨1976564872, 2296892967, 3379967302, 3390724907⟩ := eqQ_of (by decide +kernel)
theorem zb111 : zB ⟨1976564872, 2296892967, 3379967302, 3390724907⟩ = ⟨3002453688, 3981526579, 296256383, 2248585477⟩ := eqQ_of (by decide +kernel)
theorem zb112 : zB ⟨3002453688, 3981526579, 296256383, 2248585477⟩ = ⟨3196824253, 798763062, 555875393, 3947413615⟩ := eqQ_of (by decide +kernel)
theorem zb113 : zB ⟨3196824253, 798763062, 555875393, 3947413615⟩ = ⟨3853747496, 202492639, 2290864393, 3539596916⟩ := eqQ_of (by decide +kernel)
theorem zb114 : zB ⟨3853747496, 202492639, 2290864393, 3539596916⟩ = ⟨1493780682, 3046179121, 2895551006, 1611081222⟩ := eqQ_of (by decide +kernel)
theorem zb115 : zB ⟨1493780682, 3046179121, 2895551006, 1611081222⟩ = ⟨3379916415, 2265182335, 3866164012, 339762961⟩ := eqQ_of (by decide +kernel)
theorem zb116 : zB ⟨3379916415, 2265182335, 3866164012, 339762961⟩ = ⟨78825499, 16847411, 1963386199, 965900270⟩ := eqQ_of (by decide +kernel)
theorem zb117 : zB ⟨78825499, 16847411, 1963386199, 965900270⟩ = ⟨545624945, 1717935351, 2399680605, 3232486349⟩ := eqQ_of (by decide +kernel)
theorem zb118 : zB ⟨545624945, 1717935351, 2399680605, 3232486349⟩ = ⟨3342124334, 4578050, 3353751566, 3312160748⟩ := eqQ_of (by decide +kernel)
theorem zb119 : zB ⟨3342124334, 4578050, 3353751566, 3312160748⟩ = ⟨1140158869, 3184584702, 2851076217, 2512463573⟩ := eqQ_of (by decide +kernel)
theorem zb120 : zB ⟨1140158869, 3184584702, 2851076217, 2512463573⟩ = ⟨2936067599, 1085640852, 955387723, 4084457639⟩ := eqQ_of (by decide +kernel)
theorem zb121 : zB ⟨2936067599, 1085640852, 955387723, 4084457639⟩ = ⟨4263725531, 1796567805, 3255978767, 2090949923⟩ := eqQ_of (by decide +kernel)
theorem zb122 : zB ⟨4263725531, 1796567805, 3255978767, 2090949923⟩ = ⟨2593796641, 2545699052, 3820663344, 1466795813⟩ := eqQ_of (by decide +kernel)
theorem zb123 : zB ⟨2593796641, 2545699052, 3820663344, 1466795813⟩ = ⟨2833344282, 2223281102, 3168885028, 1795173791⟩ := eqQ_of (by decide +kernel)
theorem zb124 : zB ⟨2833344282, 2223281102, 3168885028, 1795173791⟩ = ⟨1254994279, 3303540492, 3178827058, 4184018754⟩ := eqQ_of (by decide +kernel)
theorem zb125 : zB ⟨1254994279, 3303540492, 3178827058, 4184018754⟩ = ⟨310552873, 3630118443, 2407354154, 3796341083⟩ := eqQ_of (by decide +kernel)
theorem zb126 : zB ⟨310552873, 3630118443, 2407354154, 3796341083⟩ = ⟨2317652113, 3163270965, 2606092601, 3967336705⟩ := eqQ_of (by decide +kernel)
theorem zb127 : zB ⟨2317652113, 3163270965, 2606092601, 3967336705⟩ = ⟨3295130754, 1930022104, 2322985555, 2156936418⟩ := eqQ_of (by decide +kernel)

theorem rep64 (m : Nat) (T : List UInt8) : List.replicate (64 * (m + 1)) 0 ++ T = zero64 ++ (List.replicate (64 * m) 0 ++ T) := by
  rw [← List.append_assoc, show zero64 = List.replicate 64 0 from rfl, List.replicate_append_replicate, show 64 + 64 * m = 64 * (m + 1) by omega]
theorem runG_front (B : List UInt8 → Q4 → Q4) (k : Nat) (A T : List UInt8) (h : Q4) (hA : A.length = 64) : runG B (k + 1) (A ++ T) h = runG B k T (B A h) := by
  rw [runG_succ, ← hA, List.take_left, List.drop_left]
theorem runG_zeros (B : List UInt8 → Q4 → Q4) (j : Nat) (T : List UInt8) : ∀ m h, runG B (m + j) (List.replicate (64 * m) 0 ++ T) h = runG B j T (iterG (B zero64) m h)
  | 0, h => by rw [Nat.mul_zero, List.replicate_zero, List.nil_append, Nat.zero_add, iterG_zero]
  | m + 1, h => by rw [rep64, show m + 1 + j = (m + j) + 1 by omega, runG_front _ _ _ _ _ rfl, runG_zeros B j T m, iterG_succ]
theorem iz : iterG zB 128 ⟨1804537449, 2744016222, 3726167250, 3886510873⟩ = ⟨3295130754, 1930022104, 2322985555, 2156936418⟩ :=
  (iterG_step zB 127 zb0).trans ((iterG_step zB 126 zb1).trans ((iterG_step zB 125 zb2).trans ((iterG_step zB 124 zb3).trans ((iterG_step zB 123 zb4).trans ((iterG_step zB 122 zb5).trans ((iterG_step zB 121 zb6).trans ((iterG_step zB 120 zb7).trans ((iterG_step zB 119 zb8).trans ((iterG_step zB 118 zb9).trans ((iterG_step zB 117 zb10).trans ((iterG_step zB 116 zb11).trans ((iterG_step zB 115 zb12).trans ((iterG_step zB 114 zb13).trans ((iterG_step zB 113 zb14).trans ((iterG_step zB 112 zb15).trans ((iterG_step zB 111 zb16).trans ((iterG_step zB 110 zb17).trans ((iterG_step zB 109 zb18).trans ((iterG_step zB 108 zb19).trans ((iterG_step zB 107 zb20).trans ((iterG_step zB 106 zb21).trans ((iterG_step zB 105 zb22).trans ((iterG_step zB 104 zb23).trans ((iterG_step zB 103 zb24).trans ((iterG_step zB 102 zb25).trans ((iterG_step zB 101 zb26).trans ((iterG_step zB 100 zb27).trans ((iterG_step zB 99 zb28).trans ((iterG_step zB 98 zb29).trans ((iterG_step zB 97 zb30).trans ((iterG_step zB 96 zb31).trans ((iterG_step zB 95 zb32).trans ((iterG_step zB 94 zb33).trans ((iterG_step zB 93 zb34).trans ((iterG_step zB 92 zb35).trans ((iterG_step zB 91 zb36).trans ((iterG_step zB 90 zb37).trans ((iterG_step zB 89 zb38).trans ((iterG_step zB 88 zb39).trans ((iterG_step zB 87 zb40).trans ((iterG_step zB 86 zb41).trans ((iterG_step zB 85 zb42).trans ((iterG_step zB 84 zb43).trans ((iterG_step zB 83 zb44).trans ((iterG_step zB 82 zb45).trans ((iterG_step zB 81 zb46).trans ((iterG_step zB 80 zb47).trans ((iterG_step zB 79 zb48).trans ((iterG_step zB 78 zb49).trans ((iterG_step zB 77 zb50).trans ((iterG_step zB 76 zb51).trans ((iterG_step zB 75 zb52).trans ((iterG_step zB 74 zb53).trans ((iterG_step zB 73 zb54).trans ((iterG_step zB 72 zb55).trans ((iterG_step zB 71 zb56).trans ((iterG_step zB 70 zb57).trans ((iterG_step zB 69 zb58).trans ((iterG_step zB 68 zb59).trans ((iterG_step zB 67 zb60).trans ((iterG_step zB 66 zb61).trans ((iterG_step zB 65 zb62).trans ((iterG_step zB 64 zb63).trans ((iterG_step zB 63 zb64).trans ((iterG_step zB 62 zb65).trans ((iterG_step zB 61 zb66).trans ((iterG_step zB 60 zb67).trans ((iterG_step zB 59 zb68).trans ((iterG_step zB 58 zb69).trans ((iterG_step zB 57 zb70).trans ((iterG_step zB 56 zb71).trans ((iterG_step zB 55 zb72).trans ((iterG_step zB 54 zb73).trans ((iterG_step zB 53 zb74).trans ((iterG_step zB 52 zb75).trans ((iterG_step zB 51 zb76).trans ((iterG_step zB 50 zb77).trans ((iterG_step zB 49 zb78).trans ((iterG_step zB 48 zb79).trans ((iterG_step zB 47 zb80).trans ((iterG_step zB 46 zb81).trans ((iterG_step zB 45 zb82).trans ((iterG_step zB 44 zb83).trans ((iterG_step zB 43 zb84).trans ((iterG_step zB 42 zb85).trans ((iterG_step zB 41 zb86).trans ((iterG_step zB 40 zb87).trans ((iterG_step zB 39 zb88).trans ((iterG_step zB 38 zb89).trans ((iterG_step zB 37 zb90).trans ((iterG_step zB 36 zb91).trans ((iterG_step zB 35 zb92).trans ((iterG_step zB 34 zb93).trans ((iterG_step zB 33 zb94).trans ((iterG_step zB 32 zb95).trans ((iterG_step zB 31 zb96).trans ((iterG_step zB 30 zb97).trans ((iterG_step zB 29 zb98).trans ((iterG_step zB 28 zb99).trans ((iterG_step zB 27 zb100).trans ((iterG_step zB 26 zb101).trans ((iterG_step zB 25 zb102).trans ((iterG_step zB 24 zb103).trans ((iterG_step zB 23 zb104).trans ((iterG_step zB 22 zb105).trans ((iterG_step zB 21 zb106).trans ((iterG_step zB 20 zb107).trans ((iterG_step zB 19 zb108).trans ((iterG_step zB 18 zb109).trans ((iterG_step zB 17 zb110).trans ((iterG_step zB 16 zb111).trans ((iterG_step zB 15 zb112).trans ((iterG_step zB 14 zb113).trans ((iterG_step zB 13 zb114).trans ((iterG_step zB 12 zb115).trans ((iterG_step zB 11 zb116).trans ((iterG_step zB 10 zb117).trans ((iterG_step zB 9 zb118).trans ((iterG_step zB 8 zb119).trans ((iterG_step zB 7 zb120).trans ((iterG_step zB 6 zb121).trans ((iterG_step zB 5 zb122).trans ((iterG_step zB 4 zb123).trans ((iterG_step zB 3 zb124).trans ((iterG_step zB 2 zb125).trans ((iterG_step zB 1 zb126).trans ((iterG_step zB 0 zb127).trans rfl)))))))))))))))))))))))))))))))))))))))))))))))))))))))))))))))))))))))))))))))))))))))))))))))))))))))))))))))))))))))))))))))
def k36 : List UInt8 := [37, 154, 48, 144, 24, 113, 203, 103, 207, 107, 29, 148, 117, 251, 53, 112, 54, 54, 54, 54, 54, 54, 54, 54, 54, 54, 54, 54, 54, 54, 54, 54, 54, 54, 54, 54, 54, 54, 54, 54, 54, 54, 54, 54, 54, 54, 54, 54, 54, 54, 54, 54, 54, 54, 54, 54, 54, 54, 54, 54, 54, 54, 54, 54]
def k5c : List UInt8 := [79, 240, 90, 250, 114, 27, 161, 13, 165, 1, 119, 254, 31, 145, 95, 26, 92, 92, 92, 92, 92, 92, 92, 92, 92, 92, 92, 92, 92, 92, 92, 92, 92, 92, 92, 92, 92, 92, 92, 92, 92, 92, 92, 92, 92, 92, 92, 92, 92, 92, 92, 92, 92, 92, 92, 92, 92, 92, 92, 92, 92, 92, 92, 92]
def tail1 : List UInt8 := [128, 0, 0, 0, 0, 0, 0, 0, 0, 0, 0, 0, 0, 0, 0, 0, 0, 0, 0, 0, 0, 0, 0, 0, 0, 0, 0, 0, 0, 0, 0, 0, 0, 0, 0, 0, 0, 0, 0, 0, 0, 0, 0, 0, 0, 0, 0, 0, 0, 0, 0, 0, 0, 0, 0, 0, 0, 2, 1, 0, 0, 0, 0, 0]
def in2 : List UInt8 := [12, 255, 94, 40, 146, 237, 130, 6, 136, 90, 116, 7, 195, 53, 34, 235, 128, 0, 0, 0, 0, 0, 0, 0, 0, 0, 0, 0, 0, 0, 0, 0, 0, 0, 0, 0, 0, 0, 0, 0, 0, 0, 0, 0, 0, 0, 0, 0, 0, 0, 0, 0, 0, 0, 0, 0, 128, 2, 0, 0, 0, 0, 0, 0]
theorem bk36 : blockN k36 0 md0 = ⟨1804537449, 2744016222, 3726167250, 3886510873⟩ := eqQ_of (by decide +kernel)
theorem bk5c : blockN k5c 0 md0 = ⟨2030383329, 4007783093, 48340444, 4119957815⟩ := eqQ_of (by decide +kernel)
theorem btail : blockN tail1 0 ⟨3295130754, 1930022104, 2322985555, 2156936418⟩ = ⟨677314316, 109243794, 125065864, 3944887747⟩ := eqQ_of (by decide +kernel)
theorem bin2 : blockN in2 0 ⟨2030383329, 4007783093, 48340444, 4119957815⟩ = ⟨2132227756, 3560712272, 3626055864, 1658726059⟩ := eqQ_of (by decide +kernel)
theorem pad1 : padL (k36 ++ List.replicate 8192 0) = k36 ++ (List.replicate (64 * 128) 0 ++ tail1) := by
  unfold padL
  rw [List.length_append, List.length_replicate, show k36.length + 8192 = 8256 from rfl, List.append_assoc]
  rfl
theorem len1 : (k36 ++ (List.replicate (64 * 128) 0 ++ tail1)).length / 64 = (128 + 1) + 1 := by
  rw [List.length_append, List.length_append, List.length_replicate]
  rfl
theorem inner_md : md5L (k36 ++ List.replicate 8192 0) = [12, 255, 94, 40, 146, 237, 130, 6, 136, 90, 116, 7, 195, 53, 34, 235] := by
  rw [← md5F_eq]
  unfold md5F
  rw [pad1, len1, runG_front blockG _ _ _ _ rfl, runG_zeros blockG 1 tail1 128, show blockG k36 md0 = _ from bk36, show iterG (blockG zero64) 128 _ = _ from iz]
  rw [← List.append_nil tail1, runG_front blockG 0 _ _ _ rfl, show blockG tail1 _ = _ from btail]
  rfl
theorem pad2 : padL (k5c ++ [12, 255, 94, 40, 146, 237, 130, 6, 136, 90, 116, 7, 195, 53, 34, 235]) = k5c ++ (in2 ++ []) := by decide +kernel
theorem len2 : (k5c ++ (in2 ++ [])).length / 64 = (0 + 1) + 1 := by decide +kernel
theorem hmac_empty : hmacL mstKey (List.replicate 8192 0) = [172, 54, 23, 127, 80, 40, 60, 212, 184, 56, 33, 216, 171, 38, 222, 98] := by
  unfold hmacL
  rw [show xorL (keyL mstKey) 54 = k36 from by decide +kernel, show xorL (keyL mstKey) 92 = k5c from by decide +kernel, inner_md, ← md5F_eq]
  unfold md5F
  rw [pad2, len2, runG_front blockG _ _ _ _ rfl, runG_front blockG _ _ _ _ rfl, show blockG k5c md0 = _ from bk5c, show blockG in2 _ = _ from bin2]
  rfl

end Go.Proofs.YtlfeholphngilaaDoor
