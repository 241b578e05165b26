package bits_test

import (
	"slices"
	"strconv"
	"strings"
	"testing"

	"tribunal/api"
	"tribunal/bits"
)

// These are the tests of P9.2, but for the orders.

func named(op api.Op, params []int, args ...string) string {
	what := "Apply(" + strconv.Itoa(int(op))
	for _, p := range params {
		what += " " + strconv.Itoa(p)
	}
	for _, a := range args {
		what += ", " + short(a)
	}
	return what + ")"
}

// applies holds Apply against the model's row; zeros on top make no difference.
func applies(t *testing.T, op api.Op, params []int, want string, args ...string) {
	t.Helper()
	for _, zeros := range []int{0, 3} {
		list := make([]api.Bits, len(args))
		for i, a := range args {
			list[i] = paddedWith(vec(a), zeros)
		}
		got, err := bits.Apply(op, params, list...)
		is(t, named(op, params, args...), got, err, want)
	}
}

func TestExamples(t *testing.T) {
	for _, c := range []struct {
		op     api.Op
		params []int
		args   []string
		want   string
	}{
		{api.OBvAdd, nil, []string{"0111", "1100"}, "0011"},
		{api.OBvUdiv, nil, []string{"0111", "0000"}, "1111"},
		{api.OBvUrem, nil, []string{"0111", "0000"}, "0111"},
		{api.OBvSdiv, nil, []string{"1001", "0010"}, "1101"},
		{api.OBvSrem, nil, []string{"1001", "0010"}, "1111"},
		{api.OBvSmod, nil, []string{"1001", "0010"}, "0001"},
		{api.OBvSmod, nil, []string{"0111", "1110"}, "1111"},
		{api.OBvSdiv, nil, []string{"1000", "1111"}, "1000"},
		{api.OBvAshr, nil, []string{"1100", "0001"}, "1110"},
		{api.OBvShl, nil, []string{"0001", "0101"}, "0000"},
		{api.OConcat, nil, []string{"10", "011"}, "10011"},
		{api.OExtract, []int{3, 1}, []string{"1010"}, "101"},
		{api.ORotL, []int{1}, []string{"1001"}, "0011"},
		{api.OSignExt, []int{2}, []string{"10"}, "1110"},
		{api.ORepeat, []int{3}, []string{"01"}, "010101"},
	} {
		applies(t, c.op, c.params, c.want, c.args...)
	}
}

// appliesAll is of all Ops without params, of one vector and with each of the others.
func appliesAll(t *testing.T, a string, others []string) {
	t.Helper()
	for _, op := range unary {
		applies(t, op, nil, ofOne(op, a), a)
	}
	for _, b := range others {
		for _, op := range binary {
			applies(t, op, nil, ofTwo(op, a, b), a, b)
		}
	}
}

func TestAllPairs(t *testing.T) {
	for w := 1; w <= 5; w++ {
		for _, a := range allBits(w) {
			appliesAll(t, a, allBits(w))
		}
	}
}

func TestPairs(t *testing.T) {
	for _, w := range widths() {
		for _, a := range samples(w) {
			appliesAll(t, a, samples(w))
		}
	}
}

func TestPairsAtTheMost(t *testing.T) {
	for _, w := range greatWidths() {
		list := samples(w)
		for i, a := range list {
			appliesAll(t, a, []string{list[0], list[1], a, list[(i*5+2)%len(list)], list[(i*7+3)%len(list)], list[len(list)-1]})
		}
	}
}

func TestMadeUpPairs(t *testing.T) {
	d := &dice{3}
	for range 3000 {
		w := 1 + d.below(300)
		appliesAll(t, d.bits(w), []string{d.bits(w)})
	}
}

// Divisions by 0 and by -1, above all of the least signed number.
func TestEdgesOfDivision(t *testing.T) {
	for _, w := range slices.Concat(widths(), greatWidths()) {
		zero, ones, least := small(w, 0), small(w, -1), "1"+strings.Repeat("0", w-1)
		for _, a := range samples(w) {
			applies(t, api.OBvUdiv, nil, ones, a, zero)
			applies(t, api.OBvUrem, nil, a, a, zero)
			applies(t, api.OBvSrem, nil, a, a, zero)
			applies(t, api.OBvSmod, nil, a, a, zero)
			if a[0] == '1' {
				applies(t, api.OBvSdiv, nil, small(w, 1), a, zero)
			} else {
				applies(t, api.OBvSdiv, nil, ones, a, zero)
			}
			applies(t, api.OBvSdiv, nil, ofOne(api.OBvNeg, a), a, ones)
			applies(t, api.OBvSrem, nil, zero, a, ones)
			applies(t, api.OBvSmod, nil, zero, a, ones)
		}
		applies(t, api.OBvSdiv, nil, least, least, ones)
		applies(t, api.OBvNeg, nil, least, least)
	}
}

// Shifts by the width and more, also by numbers of many limbs whose lowest limb is small.
func TestEdgesOfShifts(t *testing.T) {
	for _, w := range slices.Concat(widths(), greatWidths()) {
		for _, a := range samples(w) {
			for _, by := range samples(w) {
				if unsigned(by).Cmp(unsigned(small(20, int64(w)))) < 0 {
					continue
				}
				applies(t, api.OBvShl, nil, small(w, 0), a, by)
				applies(t, api.OBvLshr, nil, small(w, 0), a, by)
				applies(t, api.OBvAshr, nil, strings.Repeat(a[:1], w), a, by)
			}
			for _, op := range []api.Op{api.OBvShl, api.OBvLshr, api.OBvAshr} {
				applies(t, op, nil, a, a, small(w, 0))
			}
		}
	}
	for _, w := range []int{65, 128, 200, api.MaxWidth} {
		for _, by := range []string{wide(w, pow(64)), wide(w, pow(w-1)), "1" + small(w-1, 1)} {
			a := "1" + small(w-1, 5)
			applies(t, api.OBvShl, nil, small(w, 0), a, by)
			applies(t, api.OBvLshr, nil, small(w, 0), a, by)
			applies(t, api.OBvAshr, nil, small(w, -1), a, by)
		}
	}
}

func TestConcat(t *testing.T) {
	for _, w := range widths() {
		for _, z := range widths() {
			list, other := samples(w), samples(z)
			for i, a := range list {
				for _, b := range []string{other[0], other[i%len(other)], other[len(other)-1]} {
					applies(t, api.OConcat, nil, a+b, a, b)
				}
			}
		}
	}
	for _, w := range []int{1, 63, 64, 65, 2048, 4000, 4095} {
		for _, a := range samples(w) {
			for _, b := range samples(api.MaxWidth - w) {
				applies(t, api.OConcat, nil, a+b, a, b)
			}
		}
		got, err := bits.Apply(api.OConcat, nil, vec(small(w, 1)), vec(small(api.MaxWidth+1-w, 0)))
		fails(t, "OConcat of too many bits", got, err, api.ErrWidth)
	}
	widest := vec(small(api.MaxWidth, 0))
	for _, args := range [][]api.Bits{{widest, widest}, {widest, vec("0")}, {vec("0"), widest}} {
		got, err := bits.Apply(api.OConcat, nil, args...)
		fails(t, "OConcat of too many bits", got, err, api.ErrWidth)
	}
}

func TestExtract(t *testing.T) {
	for w := 1; w <= 8; w++ {
		for _, a := range samples(w) {
			for h := range w {
				for l := range h + 1 {
					applies(t, api.OExtract, []int{h, l}, cutOut(h, l, a), a)
				}
			}
		}
	}
	for _, w := range slices.Concat(widths(), greatWidths()) {
		ends := []int{0, 1, 31, 62, 63, 64, 65, 127, 128, w / 2, w - 2, w - 1}
		for _, a := range samples(w) {
			for _, h := range ends {
				for _, l := range ends {
					if l >= 0 && l <= h && h < w {
						applies(t, api.OExtract, []int{h, l}, cutOut(h, l, a), a)
					}
				}
			}
		}
		for _, params := range [][]int{{w, 0}, {w, w}, {w, w - 1}, {api.MaxWidth, 0}, {api.MaxWidth, api.MaxWidth}} {
			got, err := bits.Apply(api.OExtract, params, vec(small(w, -1)))
			fails(t, named(api.OExtract, params, small(w, -1)), got, err, api.ErrWidth)
		}
	}
}

func TestRepeat(t *testing.T) {
	for _, w := range slices.Concat(widths(), greatWidths()) {
		most := api.MaxWidth / w
		for _, a := range samples(w) {
			for _, k := range []int{1, 2, 3, 4, 5, 6, 7, 8, 11, 13, 31, 32, 33, most - 1, most} {
				if k > 0 && k <= most {
					applies(t, api.ORepeat, []int{k}, ofParam(api.ORepeat, k, a), a)
				}
			}
		}
		for _, k := range []int{most + 1, 2*most + 1, api.MaxWidth} {
			if k > most && k <= api.MaxWidth {
				got, err := bits.Apply(api.ORepeat, []int{k}, vec(small(w, 0)))
				fails(t, named(api.ORepeat, []int{k}, small(w, 0)), got, err, api.ErrWidth)
			}
		}
	}
}

func TestExtensions(t *testing.T) {
	for _, op := range []api.Op{api.OZeroExt, api.OSignExt} {
		for _, w := range slices.Concat(widths(), greatWidths()) {
			most := api.MaxWidth - w
			for _, a := range samples(w) {
				for _, k := range []int{0, 1, 2, 63, 64, 65, 128, most / 2, most - 1, most} {
					if k >= 0 && k <= most {
						applies(t, op, []int{k}, ofParam(op, k, a), a)
					}
				}
			}
			for _, k := range []int{most + 1, most + 2, api.MaxWidth} {
				if k <= api.MaxWidth {
					got, err := bits.Apply(op, []int{k}, vec(small(w, -1)))
					fails(t, named(op, []int{k}, small(w, -1)), got, err, api.ErrWidth)
				}
			}
		}
	}
}

func TestRotations(t *testing.T) {
	for _, op := range []api.Op{api.ORotL, api.ORotR} {
		for w := 1; w <= 5; w++ {
			for _, a := range allBits(w) {
				for k := range 3*w + 1 {
					applies(t, op, []int{k}, ofParam(op, k, a), a)
				}
			}
		}
		for _, w := range slices.Concat(widths(), greatWidths()) {
			for _, a := range samples(w) {
				for _, k := range []int{0, 1, 2, 63, 64, 65, 128, w / 2, w - 1, w, w + 1, 2 * w, 2*w + 1, 3*w - 1, api.MaxWidth - 1, api.MaxWidth} {
					if k <= api.MaxWidth {
						applies(t, op, []int{k}, ofParam(op, k, a), a)
					}
				}
			}
		}
	}
}

// Params of Ops that have none are not looked at.
func TestParamsThatPlayNoPart(t *testing.T) {
	for _, params := range [][]int{{}, {0}, {-1}, {api.MaxWidth + 1, 5}, {1, 2, 3}} {
		for _, op := range unary {
			applies(t, op, params, ofOne(op, "0110"), "0110")
		}
		for _, op := range append([]api.Op{api.OConcat}, binary...) {
			applies(t, op, params, ofTwo(op, "0110", "0011"), "0110", "0011")
		}
	}
}
