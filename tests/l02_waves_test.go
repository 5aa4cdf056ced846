package tests

import (
	"fmt"
	"math"
	"testing"

	"loop.example/g01279/impl"
)

// badWaves are waves that a tube of two sections does not have.
func badWaves() []impl.Waves {
	list := []impl.Waves{
		{}, {Right: []float32{1}, Left: []float32{1}}, {Right: []float32{1, 2, 3}, Left: []float32{1, 2, 3}},
		{Right: []float32{1, 2}}, {Left: []float32{1, 2}}, {Right: []float32{1, 2}, Left: []float32{1}}, {Right: []float32{1}, Left: []float32{1, 2}},
		{Right: []float32{1, 2, 3}, Left: []float32{1, 2}}, {Right: []float32{1, 2}, Left: []float32{1, 2, 3}},
	}
	for _, x := range badNumbers() {
		list = append(list,
			impl.Waves{Right: []float32{x, 0}, Left: []float32{0, 0}}, impl.Waves{Right: []float32{0, x}, Left: []float32{0, 0}},
			impl.Waves{Right: []float32{0, 0}, Left: []float32{x, 0}}, impl.Waves{Right: []float32{0, 0}, Left: []float32{0, x}})
	}
	return list
}

func TestStillWaves(t *testing.T) {
	for _, tube := range goodTubes() {
		got, ok := impl.StillWaves(tube)
		wantWaves(t, fmt.Sprint("StillWaves ", tube), got, ok, wavesOf(tube, 0, 0))
	}
	for _, bad := range badTubes() {
		got, ok := impl.StillWaves(bad)
		wantNoWaves(t, fmt.Sprint("StillWaves ", bad), got, ok)
	}
}

func TestAreWaves(t *testing.T) {
	for _, tube := range goodTubes() {
		for _, x := range []float32{0, minus0, least, most, -most, 1} {
			w := wavesOf(tube, x, -x)
			wantBool(t, fmt.Sprint("AreWaves ", tube, w), impl.AreWaves(tube, w), true)
		}
	}
	for _, w := range badWaves() {
		wantBool(t, fmt.Sprint("AreWaves ", w), impl.AreWaves(quietTube(1, 2), w), false)
	}
	for _, bad := range badTubes() {
		wantBool(t, fmt.Sprint("AreWaves ", bad), impl.AreWaves(bad, wavesOf(bad, 0, 0)), false)
	}
}

func TestSameWaves(t *testing.T) {
	both := func() []impl.Waves {
		return append(badWaves()[:13],
			impl.Waves{Right: []float32{0, 0}, Left: []float32{0, 0}}, impl.Waves{Right: []float32{minus0, 0}, Left: []float32{0, 0}}, impl.Waves{Right: []float32{0, 0}, Left: []float32{0, minus0}},
			impl.Waves{Right: []float32{1, 2}, Left: []float32{3, 4}}, impl.Waves{Right: []float32{3, 4}, Left: []float32{1, 2}}, impl.Waves{Right: []float32{2, 1}, Left: []float32{3, 4}},
			impl.Waves{Right: []float32{1, 2}, Left: []float32{4, 3}}, impl.Waves{Right: []float32{nan, 2}, Left: []float32{3, nan}}, impl.Waves{Right: repeat(float32(1), 300), Left: repeat(nan, 300)})
	}
	list, again := both(), both()
	for i, a := range list {
		for j, b := range again {
			wantBool(t, fmt.Sprint("SameWaves ", a, b), impl.SameWaves(a, b), i == j)
		}
	}
	wantBool(t, "SameWaves of nil and empty lists", impl.SameWaves(impl.Waves{}, impl.Waves{Right: []float32{}, Left: []float32{}}), true)
	for _, bits := range otherNN {
		x := math.Float32frombits(bits)
		wantBool(t, "SameWaves of not-a-numbers", impl.SameWaves(impl.Waves{Right: []float32{x}, Left: []float32{nan}}, impl.Waves{Right: []float32{nan}, Left: []float32{x}}), true)
	}
}

func TestAddWaves(t *testing.T) {
	for _, c := range []struct{ a, b, want impl.Waves }{
		{impl.Waves{Right: []float32{2, 0}, Left: []float32{1, -3}}, impl.Waves{Right: []float32{2, 5}, Left: []float32{-1, 0.5}}, impl.Waves{Right: []float32{4, 5}, Left: []float32{0, -2.5}}},
		{impl.Waves{Right: []float32{0x1p24, minus0}, Left: []float32{most, minus0}}, impl.Waves{Right: []float32{1, 0}, Left: []float32{-most, minus0}}, impl.Waves{Right: []float32{0x1p24, 0}, Left: []float32{0, minus0}}},
		{impl.Waves{Right: []float32{0x1p127, least}, Left: []float32{0.1, 1}}, impl.Waves{Right: []float32{most - 0x1p127, least}, Left: []float32{0.7, 2}}, impl.Waves{Right: []float32{most, 2 * least}, Left: []float32{toldNumber("3f4ccccd"), 3}}},
	} {
		got, ok := impl.AddWaves(quietTube(1, 2), c.a, c.b)
		wantWaves(t, fmt.Sprint("AddWaves ", c.a, c.b), got, ok, c.want)
	}
	many := quietTube(repeat(float32(1), 16)...)
	got, ok := impl.AddWaves(many, wavesOf(many, 1, 2), wavesOf(many, 3, 5))
	wantWaves(t, "AddWaves of 16 sections", got, ok, wavesOf(many, 4, 7))
	good := wavesOf(quietTube(1, 2), 1, 1)
	for _, bad := range badWaves() {
		got, ok := impl.AddWaves(quietTube(1, 2), good, bad)
		wantNoWaves(t, fmt.Sprint("AddWaves with ", bad), got, ok)
		got, ok = impl.AddWaves(quietTube(1, 2), bad, good)
		wantNoWaves(t, fmt.Sprint("AddWaves ", bad), got, ok)
	}
	for _, bad := range badTubes() {
		got, ok := impl.AddWaves(bad, wavesOf(bad, 0, 0), wavesOf(bad, 0, 0))
		wantNoWaves(t, fmt.Sprint("AddWaves in ", bad), got, ok)
	}
	for _, big := range []impl.Waves{{Right: []float32{most, 0}, Left: []float32{0, 0}}, {Right: []float32{0, 0}, Left: []float32{0, -most}}} {
		got, ok := impl.AddWaves(quietTube(1, 2), big, big)
		wantNoWaves(t, fmt.Sprint("AddWaves ", big), got, ok)
	}
}

// ticked has a tube, its waves, and what comes in, and then the waves behind, and what comes out, all told by their bits.
type ticked struct {
	tube, waves, in, want, out string
}

// steps are single ticks. A last bit differs if a product is not rounded before it is added, if Loss is multiplied last, or if the forms of a sum are exchanged.
func steps() []ticked {
	return []ticked{
		{"3f541e02;3f54e1c4;be9a07cd;bf267604", "40147f53/bf9afd00", "be9b6460", "ba18c000/bfa0972f", "3f2cc33b"},
		{"4080e012,40cdddf6;3f747260;bf4dc080;be5cff64", "bfa31ff4,3ef35e0b/4007bf17,3f448491", "bfa69a81", "c03b7ade,bf44b6d9/3f973afd,bdc89c5e", "3eb63b47"},
		{"401305b5,3fe76d32,40b436e0;3f6b236a;3f739633;bf6cafe3", "bfdb751c,3faf887f,bfa1b837/403bf6fa,c01ca949,bf53e841", "bff19032", "3f2dfa00,bfbf4cba,3e62c628/c00ac201,bfe63392,3f8955b7", "bdb34c32"},
		{"409716f7,3ffa6835,3f777845,40753763,40f65a47;3f5fcc6a;3f5f868a;3db3bc96", "401e00c6,c016acf8,3dc12a8a,3fdf984d,3f4b4bf3/401f55c7,bfb7a319,bfc7cc2c,3f29a730,400cb88c", "be05e30d", "3fe2829a,4064909a,c012c064,3ec21d95,3fd46e22/3e22ae90,bfccb933,3f60431b,40038016,3d798f3e", "3f415270"},
		{
			"40c6c919,40fd7797,40a08256,3ee3abcc,40a53cc9,4021b514,40373fd8,3f98f794,40f3821e,40913ba0,40cd382f,40923a96,40d89dd1,40605a87,3ecc2715,3ed209d7;3f621237;3f476cff;3f52bf39",
			"bf15da9a,c0160726,c03d118e,3fb62b35,40007a30,3f377a34,bfb20072,400783c7,3f9a832a,401fe13f,4019370e,3e8e1a90,c00309a5,3fa19c1c,bff77990,c011064c/c0343b0d,c03b82ce,3fd32fd9,3fc41379,c03fcd43,be247a5f,bfc1efda,bfb257f5,c00bc18c,bfc5ff3f,c02bf4d5,bf891b3c,3fc558c6,3f3bbe3e,bf8176a4,3da373b9",
			"bde16214",
			"c00307aa,bf446b52,c0372d5f,c0bd9b38,c001c3a0,401b7954,3f0284b4,bf9d114b,bf65b6d4,3fd7254d,3fb60ebf,40282cbc,3eec6038,c025a431,402da0e9,bfd74f16/c0359c3c,3f2a3cfd,bffb57d4,c0bdca04,3f03c155,bfbb04a9,bf9d5e93,c096423f,bf404dd0,c04a033a,bedd555c,3fc9ff13,be079874,3f346d1e,3dc4153c,bfd2dca9",
			"c0698035",
		},
		// Ends of -1, 0 and 1.
		{"40f955f5,40a6fc64;3f5c49ff;bf800000;bf800000", "bf260bbf,c030be04/3e5ab4d7,3f2f4a56", "bed1cdd6", "bf17f393,bf48fb74/3eb97a5f,40181662", "80000000"},
		{"401d3cbc,40d088a1;3f60ab02;bf800000;00000000", "bf80f81d,3f8feec3/bd81a5ec,401b42b9", "bfb1a30f", "bfaa8692,3ef54408/405f823a,00000000", "3f7ca220"},
		{"4037a9d5;3f4d498b;bf800000;3f800000", "401b0873/c008fe2f", "3e968a50", "4000ac30/3ff8a49b", "4078a49b"},
		{"400f19e8,40dbe6d1;3f71d825;00000000;bf800000", "bfce5527,c00d5116/c025917b,bfff91fc", "3eea10d0", "3eea10d0,bfda998a/c0048eb0,400580a7", "80000000"},
		{"40e3d217,4043e468;3f5b8552;00000000;00000000", "3f15e4de,3e0dc704/3ff78597,c02bbf6c", "3eb48130", "3eb48130,3fcf514d/bf977f86,00000000", "3df3262c"},
		{"40857bc3;3f516525;00000000;3f800000", "bfdcc937/3fa057d4", "bdf8205e", "bdf8205e/bfb49781", "c0349781"},
		{"3f8b9421;3f4f581c;3f800000;bf800000", "3fa54c7c/bf11fd8f", "3d65e7d7", "becfbf91/bf85e1bd", "00000000"},
		{"3f4e6848;3f644d9a;3f800000;00000000", "3f226823/bfc4bdd8", "3fec0b0e", "3ef25958/00000000", "3f10d5fa"},
		{"40e3c15f,403806eb;3f6be8a9;3f800000;3f800000", "bf419ce1,bfe625e8/3f5f4872,bff7ae53", "3e8bc62d", "3f89d2c2,be718350/bfa9390e,bfd415f6", "c05415f6"},
		// The areas 1 and 3, at the lips -1/2; all is reflected between the areas 1 and 2 to the power of 30; zeros with signs; the greatest numbers.
		{"3f800000,40400000;3f800000;3f000000;bf000000", "40000000,00000000/00000000,00000000", "00000000", "00000000,3f800000/bf800000,80000000", "00000000"},
		{"3f800000,4e800000;3f800000;00000000;00000000", "3f800000,00000000/00000000,40000000", "00000000", "00000000,40000000/40400000,00000000", "00000000"},
		{"3f800000;3f800000;00000000;00000000", "80000000/80000000", "80000000", "80000000/80000000", "80000000"},
		{"3f800000;3f800000;3f000000;bf000000", "00000000/00000000", "80000000", "00000000/80000000", "00000000"},
		{"3f800000;3f800000;00000000;00000000", "7f7fffff/ff7fffff", "ff7fffff", "ff7fffff/00000000", "7f7fffff"},
		{"3f800000;3f000000;3f800000;3f800000", "7f7fffff/7f7fffff", "7effffff", "7f7fffff/7effffff", "7f7fffff"},
	}
}

func TestStepWaves(t *testing.T) {
	for _, c := range steps() {
		got, out, ok := impl.StepWaves(toldTube(c.tube), toldWaves(c.waves), toldNumber(c.in))
		wantWaves(t, fmt.Sprint("StepWaves ", c), got, ok, toldWaves(c.want))
		wantSum(t, fmt.Sprint("StepWaves ", c), out, ok, toldNumber(c.out))
	}
}

func wantNoStep(t *testing.T, tube impl.Tube, w impl.Waves, in float32) {
	t.Helper()
	what := fmt.Sprint("StepWaves ", tube, w, in)
	got, out, ok := impl.StepWaves(tube, w, in)
	wantNoWaves(t, what, got, ok)
	wantFailed(t, what, out, ok)
}

func TestStepWavesFails(t *testing.T) {
	two := quietTube(1, 2)
	for _, bad := range badTubes() {
		wantNoStep(t, bad, wavesOf(bad, 0, 0), 0)
	}
	for _, bad := range badWaves() {
		wantNoStep(t, two, bad, 0)
	}
	for _, in := range badNumbers() {
		wantNoStep(t, two, wavesOf(two, 0, 0), in)
	}
	// What would be infinite alone: what goes right in the first section, and in another one, what goes left, and what comes out.
	wantNoStep(t, tubeOf(1, 1, 0, 1), impl.Waves{Right: []float32{0}, Left: []float32{most}}, most)
	wantNoStep(t, quietTube(2, 1), impl.Waves{Right: []float32{most, 0}, Left: []float32{0, 0}}, 0)
	wantNoStep(t, quietTube(1, 2), impl.Waves{Right: []float32{0, 0}, Left: []float32{0, most}}, 0)
	wantNoStep(t, tubeOf(1, 0, 1, 1), impl.Waves{Right: []float32{most}, Left: []float32{0}}, 0)
}

func TestRunWaves(t *testing.T) {
	for _, c := range append(steps(), []ticked{
		// 1 goes to the lips, where 1/8 of it comes out; it comes back with -7/8, and goes on with 3/4 of this.
		{"3f800000;3f800000;3f400000;bf600000", "00000000/00000000", "3f800000,00000000,00000000", "bf280000/80000000", "00000000,3e000000,00000000"},
		{
			"40c5174b,3fb680d1,40901b58,4064b505;3f71fa3e;be8315ab;bf37140e", "bfe99d22,c0087df9,4002077e,3f2f596c/3f91e8fa,bfeaa469,bfd49306,bd859da5",
			"bffc3e33,bfa5adc3,bf8aa734,3fc4c9a3,bfc7e7c5,bf9e9a65,bff1e6df,3ee540cb,3f8d47bf,bf374f2f,bf1b29a5,3fd644e0", "3ff43e5c,bfe08ae2,bee88259,3e5a606b/bece1c46,3ecfda36,3fa9b07c,3eab48d0",
			"3e3cd973,3f1418c7,befc52c8,be1ff8cf,beebaa67,bee4f7df,bd9c6f27,3ebc119b,bea15288,bb7efe35,bf1cd35d,be0872b6",
		},
		{"3ed6c140;3f4ec517;bf800000;3f000000", "3f83024f/3ffd092d", "bf33764a,bf1b9934,3f508928,be70a82b,bfeb9cca,3e2baf20", "3e1396ac/bf730c33", "3f9eb914,c0322952,bf9207b9,3ff28d62,3db2fea9,c0364926"},
		// Nothing comes in, not even a zero.
		{"3f800000,40400000;3f000000;3f000000;bf000000", "40000000,80000000/3f800000,40400000", "", "40000000,80000000/3f800000,40400000", ""},
	}...) {
		w, out, ok := impl.RunWaves(toldTube(c.tube), toldWaves(c.waves), told(c.in))
		wantWaves(t, fmt.Sprint("RunWaves ", c), w, ok, toldWaves(c.want))
		wantNumbers(t, fmt.Sprint("RunWaves ", c), out, ok, c.out)
	}
}

func TestRunsAreTicksOneAfterAnother(t *testing.T) {
	for _, c := range steps() {
		tube, now := toldTube(c.tube), toldWaves(c.waves)
		in, outs := []float32{}, []float32{}
		start := now
		for k := range 40 {
			x := float32(k%7) - 2.7
			next, out, ok := impl.StepWaves(tube, now, x)
			if !ok {
				break
			}
			in, outs, now = append(in, x), append(outs, out), next
			w, all, ok := impl.RunWaves(tube, start, in)
			wantWaves(t, fmt.Sprint("RunWaves ", tube, in), w, ok, now)
			wantNumbers(t, fmt.Sprint("RunWaves ", tube, in), all, ok, bitsText(outs))
		}
	}
}

func wantNoRun(t *testing.T, tube impl.Tube, w impl.Waves, in []float32) {
	t.Helper()
	what := fmt.Sprint("RunWaves ", tube, w, in)
	got, out, ok := impl.RunWaves(tube, w, in)
	wantNoWaves(t, what, got, ok)
	wantNoList(t, what, out, ok)
}

func TestRunWavesFails(t *testing.T) {
	two := quietTube(1, 2)
	still := wavesOf(two, 0, 0)
	for _, in := range [][]float32{nil, {0}, {1, 2, 3}} {
		for _, bad := range badTubes() {
			wantNoRun(t, bad, wavesOf(bad, 0, 0), in)
		}
		for _, bad := range badWaves() {
			wantNoRun(t, two, bad, in)
		}
	}
	for _, x := range badNumbers() {
		wantNoRun(t, two, still, []float32{x})
		wantNoRun(t, two, still, []float32{x, 0, 0})
		wantNoRun(t, two, still, []float32{0, 0, x})
	}
	wantNoRun(t, two, still, repeat(float32(0), 257))
	// Infinite first in the last tick, and in the first one, where what comes out is all that is.
	wantNoRun(t, tubeOf(1, 1, 1, 1), wavesOf(quietTube(1), 0, 0), []float32{0x1p127, 0, 0x1p127})
	wantNoRun(t, tubeOf(1, 0, 1, 1), wavesOf(quietTube(1), most, 0), []float32{0, 0, 0})
	w, out, ok := impl.RunWaves(two, still, repeat(float32(3), 256))
	if !ok || len(out) != impl.MaxNumbers || w.Right[0] != 3 {
		t.Errorf("RunWaves of 256 numbers: got %v %v %v", w, out, ok)
	}
}

func TestEnergyOfWaves(t *testing.T) {
	for _, c := range []struct{ areas, waves, want string }{
		{"3f800000,40400000", "40000000,00000000/00000000,00000000", "40800000"}, {"3f800000,40400000", "40000000,bf800000/40400000,3f000000", "41860000"},
		{"40a00000", "40000000/bf800000", "41c80000"}, {"3f800000", "80000000/80000000", "00000000"}, {"3f800000", "00000001/00000001", "00000000"},
		// A square that is rounded to 0 stays so in a great area.
		{"7f7fffff", "00000001/00000001", "00000000"}, {"3f800000", "5f000000/00000000", "7e800000"},
		// In order, each sum rounded.
		{"3f800000,3f800000,3f800000", "45800000,3f800000,3f800000/00000000,00000000,00000000", "4b800000"},
		{"3f800000,3f800000,3f800000", "3f800000,3f800000,45800000/00000000,00000000,00000000", "4b800001"},
		// A last bit differs if a square or a product is not rounded, or the sum goes in another order.
		{"402e59d0,402a9e4d,402273e8", "c0139771,bf959c17,3f469bd6/c0282522,c00ecbea,c0073829", "427c41e3"},
		{
			"40c2f330,408633f6,4034be50,40a4c049,40b9f805,3fc0bf46,40564e93,40de50fd,3f92640e,3f88deeb,408988c0,40f66180,40e25cdf,40fdb8c7,3fe76ba3,4023b42d",
			"3ffa0cbb,3fc2006f,bf9ec17f,bfbe3c97,c0121698,bf9e9f28,403a0f17,3fcd4f7d,40244bb7,c009d504,3f7c2b74,4021e54e,3fb866c7,bf312869,403f2ff7,3fb90a6b/bfb16760,bd3ecd3c,be071ec5,c0172779,4013dc9d,3f954d41,3f2c93e8,4021e794,3f968ff0,bf403050,40280bb0,bf1de833,c03f76dd,3f8c6829,3e8aaafd,3f4cc49f",
			"43e7140b",
		},
	} {
		got, ok := impl.EnergyOfWaves(tubeOf(0.5, 1, -0.25, told(c.areas)...), toldWaves(c.waves))
		wantSum(t, fmt.Sprint("EnergyOfWaves ", c), got, ok, toldNumber(c.want))
	}
	for _, bad := range badTubes() {
		got, ok := impl.EnergyOfWaves(bad, wavesOf(bad, 0, 0))
		wantFailed(t, fmt.Sprint("EnergyOfWaves in ", bad), got, ok)
	}
	for _, bad := range badWaves() {
		got, ok := impl.EnergyOfWaves(quietTube(1, 2), bad)
		wantFailed(t, fmt.Sprint("EnergyOfWaves ", bad), got, ok)
	}
	for _, c := range []struct{ areas, waves string }{
		{"3f800000", "5f800000/00000000"}, {"3f800000", "00000000/df800000"}, {"00000001", "5f800000/00000000"}, {"7f7fffff", "3f800000/3f800000"},
		{"7f7fffff,7f7fffff", "3f800000,3f800000/00000000,00000000"},
	} {
		got, ok := impl.EnergyOfWaves(quietTube(told(c.areas)...), toldWaves(c.waves))
		wantFailed(t, fmt.Sprint("EnergyOfWaves ", c), got, ok)
	}
}
