package rights_test

import (
	"math"
	"math/rand"
	"slices"
	"testing"

	"headend/api"
	"headend/rights"
)

// isValidOffice follows the definition of a valid office.
func isValidOffice(o api.Office) bool {
	good := isValid(o.Books) && in(o.Count, 0, 1<<40-1) && in(o.Step, 0, 3)
	if o.Step == 1 || o.Step == 2 {
		good = good && o.Count < 1<<40-1
	}
	for _, f := range []api.File{o.Shots[0], o.Shots[1], o.Log} {
		good = good && in(f.Safe, 0, len(f.Bytes)) && len(f.Bytes) <= 4096
	}
	n := len(o.Log.Bytes)
	return good && n >= 8 && (n-8)%43 == 0
}

func someBytes(r *rand.Rand, n int) []byte {
	b := make([]byte, n)
	r.Read(b)
	return b
}

// someOffice returns an office that is valid, and that no calls need to have made.
func someOffice(r *rand.Rand) api.Office {
	file := func(n int) api.File {
		safe := pick(r, 0, n, r.Intn(n+1))
		return api.File{Bytes: someBytes(r, n), Safe: safe}
	}
	o := api.Office{Books: someBooks(r), Step: pick(r, 0, 0, 0, 1, 2, 3)}
	o.Count = pick(r, 0, 1, 2, r.Intn(10), api.MaxTick-2, r.Intn(api.MaxTick-1))
	if r.Intn(10) == 0 && (o.Step == 0 || o.Step == 3) {
		o.Count = api.MaxTick - 1
	}
	o.Shots = [2]api.File{file(pick(r, 0, 100, r.Intn(4097), 4096)), file(pick(r, 0, 100, r.Intn(4097), 4096))}
	o.Log = file(8 + 43*pick(r, 0, 0, 1, 1, 2, r.Intn(96), 94, 95))
	if r.Intn(2) == 0 {
		o.Log.Bytes = append(journalBytes(o.Count), o.Log.Bytes[8:]...)
	}
	return o
}

func TestOpen(t *testing.T) { // P6.5
	want := api.Office{Log: api.File{Bytes: make([]byte, 8), Safe: 8}}
	if o := rights.Open(); !isSameOffice(o, want) || rights.CheckOffice(o) != api.OK {
		t.Errorf("%+v", o)
	}
}

func TestCheckOffice(t *testing.T) { // P6.5
	r := rand.New(rand.NewSource(18))
	for range 1000 {
		if o := someOffice(r); !isValidOffice(o) || rights.CheckOffice(o) != api.OK {
			t.Fatalf("%v with %+v", rights.CheckOffice(o), o)
		}
	}
	for name, spoil := range map[string]func(o *api.Office){
		"books":           func(o *api.Office) { o.Books.Credits[0] = -1 },
		"count":           func(o *api.Office) { o.Count = api.MaxTick },
		"count below 0":   func(o *api.Office) { o.Count = -1 },
		"count at step 1": func(o *api.Office) { o.Count, o.Step = api.MaxTick-1, 1 },
		"count at step 2": func(o *api.Office) { o.Count, o.Step = api.MaxTick-1, 2 },
		"below, step 1":   func(o *api.Office) { o.Count, o.Step = -1, 1 },
		"below, step 2":   func(o *api.Office) { o.Count, o.Step = -2, 2 },
		"large, step 2":   func(o *api.Office) { o.Count, o.Step = math.MaxInt, 2 },
		"step":            func(o *api.Office) { o.Step = 4 },
		"step below 0":    func(o *api.Office) { o.Step = -1 },
		"safe 0":          func(o *api.Office) { o.Shots[0].Safe = 1 },
		"safe 1":          func(o *api.Office) { o.Shots[1].Safe = 4 },
		"safe log":        func(o *api.Office) { o.Log.Safe = 9 },
		"safe below 0":    func(o *api.Office) { o.Shots[0].Safe = -1 },
		"log below 0":     func(o *api.Office) { o.Log.Safe = -1 },
		"shot 1 below 0":  func(o *api.Office) { o.Shots[1].Safe = -1 },
		"long shot 0":     func(o *api.Office) { o.Shots[0].Bytes = make([]byte, 4097) },
		"long shot 1":     func(o *api.Office) { o.Shots[1].Bytes = make([]byte, 4097) },
		"long log":        func(o *api.Office) { o.Log.Bytes = make([]byte, 8+43*96) },
		"no log":          func(o *api.Office) { o.Log = api.File{} },
		"short log":       func(o *api.Office) { o.Log = api.File{Bytes: make([]byte, 7)} },
		"part of a log":   func(o *api.Office) { o.Log.Bytes = make([]byte, 8+42) },
		"no head":         func(o *api.Office) { o.Log.Bytes = make([]byte, 43) },
		"before the head": func(o *api.Office) { o.Log.Safe, o.Log.Bytes = 0, nil },
	} {
		o := officeOf(smallBooks(), 0)
		o.Shots[1].Bytes = make([]byte, 3)
		spoil(&o)
		if e := rights.CheckOffice(o); e != api.ErrBad || isValidOffice(o) {
			t.Errorf("%s: %v", name, e)
		}
		if got, e := rights.Do(o, api.Deal{}); e != api.ErrBad || !isSameOffice(got, api.Office{}) {
			t.Errorf("%s: Do %v", name, e)
		}
		if got, e := rights.Sync(o); e != api.ErrBad || !isSameOffice(got, api.Office{}) {
			t.Errorf("%s: Sync %v", name, e)
		}
		if got, e := rights.Turn(o); e != api.ErrBad || !isSameOffice(got, api.Office{}) {
			t.Errorf("%s: Turn %v", name, e)
		}
		if d, e := rights.Crash(o, 0, 0, 0); e != api.ErrBad || !isSameDisk(d, api.Disk{}) {
			t.Errorf("%s: Crash %v", name, e)
		}
	}
	for _, n := range wild() {
		for i := range 5 {
			o := officeOf(smallBooks(), 3)
			*[]*int{&o.Count, &o.Step, &o.Shots[0].Safe, &o.Shots[1].Safe, &o.Log.Safe}[i] = n
			if e := rights.CheckOffice(o); e != api.ErrBad {
				t.Errorf("%d: %+v: %v", i, o, e)
			}
		}
	}
	for _, step := range []int{0, 1, 2, 3} {
		for _, count := range []int{0, api.MaxTick - 2, api.MaxTick - 1} {
			o := officeOf(smallBooks(), count)
			o.Step = step
			if e := rights.CheckOffice(o); (e == api.OK) != isValidOffice(o) {
				t.Errorf("step %d, count %d: %v", step, count, e)
			}
		}
	}
}

func TestDo(t *testing.T) { // P6.5: against the definition, also where the journal has any bytes
	r := rand.New(rand.NewSource(19))
	counts := map[api.Errno]int{}
	for range 5000 {
		o, d := someOffice(r), someDeal(r)
		want, wantError := doneOf(o, d)
		got, e := rights.Do(o, d)
		if e != wantError || !isSameOffice(got, want) {
			t.Fatalf("%+v: %v instead of %v, %+v", d, e, wantError, got)
		}
		if e == api.OK && !isValidOffice(got) {
			t.Fatalf("%+v: %+v", d, got)
		}
		counts[e]++
	}
	if counts[api.OK] < 500 || counts[api.ErrStep] < 500 || counts[api.ErrFull] < 50 || counts[api.ErrNone] < 50 {
		t.Error(counts)
	}
}

// doneOf follows the definition of doing a valid deal.
func doneOf(o api.Office, d api.Deal) (api.Office, api.Errno) {
	if o.Step != 0 {
		return api.Office{}, api.ErrStep
	}
	b, e := carried(o.Books, d)
	if e != api.OK {
		return api.Office{}, e
	}
	if len(o.Log.Bytes)+43 > 4096 {
		return api.Office{}, api.ErrFull
	}
	mark := hash(o.Log.Bytes[:8])
	if n := len(o.Log.Bytes); n > 8 {
		mark = slices.Clone(o.Log.Bytes[n-16:])
	}
	record := dealBytes(d)
	record = append(record, hash(append(mark, record...))...)
	o.Books, o.Log.Bytes = b, append(slices.Clone(o.Log.Bytes), record...)
	return o, api.OK
}

func TestDoErrors(t *testing.T) { // P6.5, R1
	full := officeOf(smallBooks(), 0)
	full.Log.Bytes = append(full.Log.Bytes, make([]byte, 43*95)...)
	within := officeOf(smallBooks(), 0)
	within.Step = 1
	free := officeOf(smallBooks(), 0)
	almost := officeOf(smallBooks(), 0)
	almost.Log.Bytes = append(almost.Log.Bytes, make([]byte, 43*94)...)
	fine := api.Deal{Kind: api.DealFill, Account: 1, Amount: 5}
	for name, x := range map[string]struct {
		o api.Office
		d api.Deal
		e api.Errno
	}{
		"step before the deal":     {within, api.Deal{}, api.ErrStep},
		"step":                     {within, fine, api.ErrStep},
		"deal":                     {free, api.Deal{}, api.ErrArg},
		"deal before the journal":  {full, api.Deal{}, api.ErrArg},
		"table":                    {free, api.Deal{Kind: api.DealKill, Receiver: 50}, api.ErrNone},
		"table before the journal": {full, api.Deal{Kind: api.DealKill, Receiver: 7}, api.ErrDead},
		"journal":                  {full, fine, api.ErrFull},
		"last record":              {almost, fine, api.OK},
		"first record":             {free, fine, api.OK},
	} {
		o, e := rights.Do(x.o, x.d)
		if e != x.e || e != api.OK && !isSameOffice(o, api.Office{}) {
			t.Errorf("%s: %v, %+v", name, e, o)
		}
	}
}

func TestSync(t *testing.T) { // P6.5
	r := rand.New(rand.NewSource(20))
	for range 500 {
		o := someOffice(r)
		want, wantError := o, api.OK
		want.Log.Safe = len(o.Log.Bytes)
		if o.Step != 0 {
			want, wantError = api.Office{}, api.ErrStep
		}
		if got, e := rights.Sync(o); e != wantError || !isSameOffice(got, want) {
			t.Fatalf("%+v: %v, %+v", o, e, got)
		}
	}
}

func TestTurn(t *testing.T) { // P6.5: each step against its definition
	r := rand.New(rand.NewSource(21))
	steps, full := [4]int{}, 0
	for range 2000 {
		o := someOffice(r)
		want, wantError := o, api.OK
		i := (o.Count + 1) % 2
		switch o.Step {
		case 0:
			want.Shots[i] = api.File{Bytes: snapshotBytes(o.Books, o.Count+1)}
			if o.Count == api.MaxTick-1 {
				wantError = api.ErrFull
			}
		case 1:
			want.Shots[i].Safe = len(o.Shots[i].Bytes)
		case 2:
			want.Log, want.Count = api.File{Bytes: wide(nil, o.Count+1)}, o.Count+1
		case 3:
			want.Log.Safe = len(o.Log.Bytes)
		}
		steps[o.Step]++
		if want.Step = (o.Step + 1) % 4; wantError != api.OK {
			want = api.Office{}
			full++
		}
		got, e := rights.Turn(o)
		if e != wantError || !isSameOffice(got, want) {
			t.Fatalf("%+v: %v, %+v", o, e, got)
		}
		if e == api.OK && !isValidOffice(got) {
			t.Fatalf("not valid: %+v", got)
		}
	}
	if slices.Min(steps[:]) < 100 || full < 20 {
		t.Error(steps, full)
	}
}

func TestTurnToTheEnd(t *testing.T) { // P6.5, P6.7: the last generations
	o := officeOf(smallBooks(), api.MaxTick-2)
	for range 4 {
		if o = must[api.Office](t)(rights.Turn(o)); !isValidOffice(o) {
			t.Errorf("%+v", o)
		}
	}
	if o.Count != api.MaxTick-1 || o.Step != 0 {
		t.Errorf("%+v", o)
	}
	if got, e := rights.Turn(o); e != api.ErrFull || !isSameOffice(got, api.Office{}) {
		t.Errorf("%v, %+v", e, got)
	}
	o = do(t, o, api.Deal{Kind: api.DealFill, Account: 1, Amount: 7})
	d := must[api.Disk](t)(rights.Crash(o, 5000, 5000, 5000))
	if got, e := rights.Recover(d); e != api.OK || got.Count != api.MaxTick-1 || !isSameBooks(got.Books, o.Books) {
		t.Errorf("%v, %+v", e, got)
	}
}
