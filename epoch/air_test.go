package epoch_test

import (
	"math"
	"math/rand"
	"slices"
	"testing"

	"headend/api"
	"headend/epoch"
)

func TestCheckAir(t *testing.T) { // P5.1, R5
	for _, a := range airs() {
		if e := epoch.CheckAir(a); e != api.OK || !isAir(a) {
			t.Errorf("%+v: %v", a, e)
		}
	}
	for _, a := range wrongAirs() {
		if e := epoch.CheckAir(a); e != api.ErrAir {
			t.Errorf("%+v: %v", a, e)
		}
	}
}

// All schedules of small numbers, and of some at the limits.
func TestCheckAirOfAll(t *testing.T) { // P5.1
	check := func(a api.Air) {
		want := api.ErrAir
		if isAir(a) {
			want = api.OK
		}
		if e := epoch.CheckAir(a); e != want {
			t.Errorf("%+v: %v, want %v", a, e, want)
		}
	}
	for _, word := range []int{-1, 1, 2, 3} {
		for e := -2; e <= 9; e++ {
			for early := -1; early <= 9; early++ {
				for drift := -1; drift <= 5; drift++ {
					for delay := -1; delay <= 9; delay++ {
						check(api.Air{Epoch: e, Word: word, Early: early, Drift: drift, Delay: delay})
					}
				}
			}
		}
	}
	for _, word := range []int{1, 2, 7, 999, 1000, 1001} {
		for _, times := range []int{1, 2, 3, 999, 1000, 1001} {
			for _, off := range []int{-1, 0, 1} {
				check(api.Air{Epoch: word*times + off, Word: word})
				check(api.Air{Epoch: word * times, Word: word, Early: word*times + off})
				check(api.Air{Epoch: word * times, Word: word, Drift: 3*word/2 + off})
				check(api.Air{Epoch: word * times, Word: word, Delay: 3*word + off})
			}
		}
	}
}

// someTicks returns ticks of all sizes, with those at the edges of epochs and periods.
func someTicks(r *rand.Rand, a api.Air) []int {
	l := []int{0, 1, 2, 3, api.MaxTick, api.MaxTick - 1, api.MaxTick - a.Epoch, api.MaxTick - a.Word}
	for _, n := range []int{1, 2, 3, r.Intn(1000), r.Intn(1 << 19)} {
		for off := -2; off <= 2; off++ {
			l = append(l, n*a.Epoch+off, n*a.Word+off, n*a.Epoch-a.Early+off, n*a.Epoch+a.Delay+off)
		}
	}
	for range 20 {
		l = append(l, r.Intn(api.MaxTick), r.Intn(3*a.Epoch))
	}
	return slices.DeleteFunc(l, func(n int) bool { return n < 0 || n > api.MaxTick })
}

// floor returns the whole part of a quotient by counting down from an estimate.
func floor(n, d int) int {
	q := n/d + 1
	for q*d > n {
		q--
	}
	return q
}

func TestEpochAndPeriod(t *testing.T) { // P5.1
	r := rand.New(rand.NewSource(1))
	for _, a := range airs() {
		for _, tick := range someTicks(r, a) {
			if n, e := epoch.EpochOf(a, tick); e != api.OK || n != floor(tick, a.Epoch) {
				t.Errorf("%+v, %d: epoch %d, %v", a, tick, n, e)
			}
			if n, e := epoch.PeriodOf(a, tick); e != api.OK || n != floor(tick, a.Word) {
				t.Errorf("%+v, %d: period %d, %v", a, tick, n, e)
			}
		}
	}
}

func TestPeriodLiesInOneEpoch(t *testing.T) { // Terms
	for _, a := range airs()[:12] {
		epochs := map[int]int{}
		for tick := range 3 * a.Epoch {
			period := must[int](t)(epoch.PeriodOf(a, tick))
			of := must[int](t)(epoch.EpochOf(a, tick))
			if first, seen := epochs[period]; seen && first != of {
				t.Fatalf("%+v: period %d in %d and %d", a, period, first, of)
			}
			epochs[period] = of
		}
	}
}

// isDue follows the definition.
func isDue(a api.Air, e, tick int) bool { return tick >= e*a.Epoch-a.Early && tick <= (e+1)*a.Epoch-1 }

func TestDue(t *testing.T) { // P5.1
	r := rand.New(rand.NewSource(2))
	for _, a := range airs() {
		for _, tick := range someTicks(r, a) {
			var want []int
			for e := max(0, tick/a.Epoch-3); e < tick/a.Epoch+4; e++ {
				if isDue(a, e, tick) {
					want = append(want, e)
				}
			}
			if got, e := epoch.Due(a, tick); e != api.OK || !slices.Equal(got, want) {
				t.Errorf("%+v, %d: %v, %v, want %v", a, tick, got, e, want)
			}
		}
	}
}

func TestNoTicks(t *testing.T) { // P5.1, R2, R5
	for _, a := range airs() {
		for _, tick := range wild() {
			if n, e := epoch.EpochOf(a, tick); e != api.ErrArg || n != 0 {
				t.Errorf("%+v, %d: %d, %v", a, tick, n, e)
			}
			if n, e := epoch.PeriodOf(a, tick); e != api.ErrArg || n != 0 {
				t.Errorf("%+v, %d: %d, %v", a, tick, n, e)
			}
			if l, e := epoch.Due(a, tick); e != api.ErrArg || len(l) > 0 {
				t.Errorf("%+v, %d: %v, %v", a, tick, l, e)
			}
		}
	}
}

// sentTicks returns the ticks from 0 on at which a packet may have been sent.
func sentTicks(a api.Air, local int) []int {
	var l []int
	for tick := local - a.Drift - a.Delay; tick <= local+a.Drift; tick++ {
		if tick >= 0 {
			l = append(l, tick)
		}
	}
	return l
}

// someLocals returns local times, with those at the edges of what is taken.
func someLocals(r *rand.Rand, a api.Air) []int {
	l := []int{-api.MaxTick, -api.MaxTick + 1, 2 * api.MaxTick, 2*api.MaxTick - 1, api.MaxTick, api.MaxTick + a.Drift}
	for off := range 6 {
		l = append(l, -a.Drift-off, off-a.Drift, off+a.Delay, a.Drift+a.Delay+off, -off)
	}
	l = append(l, someTicks(r, a)...)
	for _, n := range []int{1, 2, r.Intn(1 << 19)} {
		for off := -2; off <= 2; off++ {
			l = append(l, n*a.Epoch+a.Drift+a.Delay+off, n*a.Epoch-a.Early-a.Drift+off)
		}
	}
	return l
}

func TestResolve(t *testing.T) { // P5.2
	r := rand.New(rand.NewSource(3))
	for _, a := range airs() {
		for _, local := range someLocals(r, a) {
			periods := map[int]bool{}
			for _, tick := range sentTicks(a, local) {
				periods[tick/a.Word] = true
			}
			for low := range uint8(4) {
				want, found, e := 0, 0, api.ErrTime
				for period := range periods {
					if period%4 == int(low) {
						want, e = period, api.OK
						found++
					}
				}
				if found > 1 {
					t.Fatalf("%+v, %d, %d: %d periods", a, local, low, found)
				}
				if got, ge := epoch.Resolve(a, local, low); ge != e || got != want {
					t.Errorf("%+v, %d, %d: %d, %v, want %d, %v", a, local, low, got, ge, want, e)
				}
			}
		}
	}
}

func TestInTime(t *testing.T) { // P5.2
	r := rand.New(rand.NewSource(4))
	for _, a := range airs() {
		for _, local := range someLocals(r, a) {
			ticks := sentTicks(a, local)
			epochs := []int{0, 1, 2, r.Intn(1000), r.Intn(api.MaxTick), api.MaxTick - 1, api.MaxTick}
			for off := -3; off <= 3; off++ {
				epochs = append(epochs, local/a.Epoch+off)
			}
			for _, n := range epochs {
				if n < 0 || n > api.MaxTick {
					continue
				}
				want := slices.ContainsFunc(ticks, func(tick int) bool { return isDue(a, n, tick) })
				if got, e := epoch.InTime(a, local, n); e != api.OK || got != want {
					t.Errorf("%+v, %d, %d: %v, %v", a, local, n, got, e)
				}
			}
		}
	}
}

func TestResolveAndInTimeErrors(t *testing.T) { // P5.2, R2, R5
	far := []int{-api.MaxTick - 1, 2*api.MaxTick + 1, math.MinInt, math.MaxInt, math.MinInt + 1, math.MaxInt - 1, 1 << 62, -1 << 62}
	for _, a := range airs() {
		for _, local := range far {
			for _, low := range []uint8{0, 1, 2, 3, 4, 255} {
				if n, e := epoch.Resolve(a, local, low); e != api.ErrArg || n != 0 {
					t.Errorf("%+v, %d, %d: %d, %v", a, local, low, n, e)
				}
			}
			if in, e := epoch.InTime(a, local, 0); e != api.ErrArg || in {
				t.Errorf("%+v, %d: %v, %v", a, local, in, e)
			}
		}
		for _, local := range []int{0, -api.MaxTick, 2 * api.MaxTick, 100} {
			for low := 4; low < 256; low++ {
				if n, e := epoch.Resolve(a, local, uint8(low)); e != api.ErrArg || n != 0 {
					t.Errorf("%+v, %d, %d: %d, %v", a, local, low, n, e)
				}
			}
			for _, n := range wild() {
				if in, e := epoch.InTime(a, local, n); e != api.ErrArg || in {
					t.Errorf("%+v, %d, %d: %v, %v", a, local, n, in, e)
				}
			}
		}
	}
}

func TestAirExamples(t *testing.T) { // Examples
	a := example()
	if n, e := epoch.EpochOf(a, 95); e != api.OK || n != 0 {
		t.Error(n, e)
	}
	if n, e := epoch.PeriodOf(a, 95); e != api.OK || n != 9 {
		t.Error(n, e)
	}
	for tick, want := range map[int][]int{95: {0, 1}, 79: {0}, 80: {0, 1}, 99: {0, 1}, 100: {1}, 0: {0}} {
		if l, e := epoch.Due(a, tick); e != api.OK || !slices.Equal(l, want) {
			t.Error(tick, l, e)
		}
	}
	for low, want := range []int{0, 9, 10, 0} {
		wantE := []api.Errno{api.ErrTime, api.OK, api.OK, api.ErrTime}[low]
		if n, e := epoch.Resolve(a, 101, uint8(low)); e != wantE || n != want {
			t.Error(low, n, e)
		}
	}
	for local := -200; local < 400; local++ {
		if in, e := epoch.InTime(a, local, 0); e != api.OK || in != (local >= -6 && local <= 107) {
			t.Error(local, in, e)
		}
		if in, e := epoch.InTime(a, local, 1); e != api.OK || in != (local >= 74 && local <= 207) {
			t.Error(local, in, e)
		}
	}
	a.Drift = 15
	if e := epoch.CheckAir(a); e != api.ErrAir {
		t.Error(e)
	}
}

// Whatever a clock and a carrier do within the limits, the period is right.
func TestThePeriodIsRight(t *testing.T) { // P5.8
	r := rand.New(rand.NewSource(5))
	for _, a := range airs() {
		for _, sent := range someTicks(r, a) {
			period := sent / a.Word
			for _, delay := range []int{0, a.Delay, r.Intn(a.Delay + 1)} {
				for _, ahead := range []int{-a.Drift, a.Drift, r.Intn(2*a.Drift+1) - a.Drift} {
					got, e := epoch.Resolve(a, sent+delay+ahead, uint8(period%4))
					if e != api.OK || got != period {
						t.Errorf("%+v: sent at %d, %d on its way, %d ahead: %d, %v", a, sent, delay, ahead, got, e)
					}
				}
			}
		}
	}
}

func TestHeadersAreInTime(t *testing.T) { // P5.8
	r := rand.New(rand.NewSource(6))
	for _, a := range airs() {
		for _, n := range []int{0, 1, 2, r.Intn(1000), r.Intn(api.MaxTick / a.Epoch)} {
			first, last := max(0, n*a.Epoch-a.Early), (n+1)*a.Epoch-1
			for _, sent := range []int{first, last, first + r.Intn(last-first+1)} {
				for _, delay := range []int{0, a.Delay, r.Intn(a.Delay + 1)} {
					for _, ahead := range []int{-a.Drift, a.Drift, r.Intn(2*a.Drift+1) - a.Drift} {
						if in, e := epoch.InTime(a, sent+delay+ahead, n); e != api.OK || !in {
							t.Errorf("%+v: epoch %d sent at %d, %d on its way, %d ahead: %v", a, n, sent, delay, ahead, e)
						}
					}
				}
			}
			for _, late := range []int{1, 2, 1 + r.Intn(a.Epoch), 1 << 30} {
				for _, ahead := range []int{-a.Drift, a.Drift, 0} {
					if in, e := epoch.InTime(a, last+2*a.Drift+a.Delay+late+ahead, n); e != api.OK || in {
						t.Errorf("%+v: epoch %d is in time %d ticks too late", a, n, late)
					}
				}
			}
		}
	}
}

func TestWrongAirComesFirst(t *testing.T) { // P5.1, R1, R2, R7
	for _, a := range wrongAirs() {
		for _, n := range append(wild(), 0, 1, 100) {
			if x, e := epoch.EpochOf(a, n); e != api.ErrAir || x != 0 {
				t.Errorf("%+v, %d: %v, %v", a, n, x, e)
			}
			if x, e := epoch.PeriodOf(a, n); e != api.ErrAir || x != 0 {
				t.Errorf("%+v, %d: %v, %v", a, n, x, e)
			}
			if x, e := epoch.Due(a, n); e != api.ErrAir || len(x) != 0 {
				t.Errorf("%+v, %d: %v, %v", a, n, x, e)
			}
			for _, low := range []uint8{0, 4, 255} {
				if x, e := epoch.Resolve(a, n, low); e != api.ErrAir || x != 0 {
					t.Errorf("%+v, %d: %v, %v", a, n, x, e)
				}
			}
			for _, at := range append(wild(), 0) {
				if x, e := epoch.InTime(a, n, at); e != api.ErrAir || x {
					t.Errorf("%+v, %d, %d: %v, %v", a, n, at, x, e)
				}
			}
			for _, size := range []int{0, 256, 257} {
				if x, e := epoch.Content(api.Key{}, a, n, 0, make([]byte, size)); e != api.ErrAir || !isSamePacket(x, api.Packet{}) {
					t.Errorf("%+v, %d: %v, %v", a, n, x, e)
				}
			}
		}
	}
}
