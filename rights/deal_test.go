package rights_test

import (
	"math/rand"
	"reflect"
	"slices"
	"testing"

	"headend/api"
	"headend/rights"
)

func TestCheckDeal(t *testing.T) { // P6.1: the edges of each field
	most := api.MaxTick
	for _, d := range []api.Deal{
		{Kind: 1}, {Kind: 1, Region: 255, Level: 3, Amount: 1000, View: true},
		{Kind: 2}, {Kind: 2, Receiver: 63, Account: 15, Region: 7, Level: 3},
		{Kind: 3}, {Kind: 3, Receiver: 63, Account: 15},
		{Kind: 4}, {Kind: 4, Receiver: 63},
		{Kind: 5, To: 1}, {Kind: 5, Account: 15, Item: 7, From: most - 1, To: most},
		{Kind: 6}, {Kind: 6, Account: 15, Item: 7, From: most},
		{Kind: 7, Amount: 1}, {Kind: 7, Account: 15, Amount: 100000},
		{Kind: 8}, {Kind: 8, Account: 15, Item: 7, From: most},
		{Kind: 9, Amount: 1}, {Kind: 9, Account: 15, Item: 15, To: most, Amount: 100},
		{Kind: 10}, {Kind: 10, Receiver: 63, Item: 15, From: most},
		{Kind: 11}, {Kind: 11, Receiver: 63, Amount: 8},
		{Kind: 12}, {Kind: 12, Receiver: 63, From: most},
	} {
		if e := rights.CheckDeal(d); e != api.OK || !isValidDeal(d) {
			t.Errorf("%v with %+v", e, d)
		}
	}
	for _, d := range []api.Deal{
		{}, {Kind: 13}, {Kind: 255}, {Kind: 128, Receiver: 3},
		{Kind: 1, Level: 4}, {Kind: 1, Amount: 1001}, {Kind: 1, Amount: -1}, {Kind: 1, Receiver: 1}, {Kind: 1, Item: 1},
		{Kind: 2, Receiver: 64}, {Kind: 2, Account: 16}, {Kind: 2, Region: 8}, {Kind: 2, Level: 4}, {Kind: 2, View: true},
		{Kind: 3, Receiver: -1}, {Kind: 3, Account: -1}, {Kind: 3, Level: 1}, {Kind: 4, Receiver: 64}, {Kind: 4, Account: 1},
		{Kind: 5}, {Kind: 5, From: 5, To: 5}, {Kind: 5, From: 5, To: 4}, {Kind: 5, From: -1, To: 4},
		{Kind: 5, To: most + 1}, {Kind: 5, Item: 8, To: 1}, {Kind: 5, To: 1, Amount: 1},
		{Kind: 6, Item: 8}, {Kind: 6, From: most + 1}, {Kind: 6, To: 1}, {Kind: 7}, {Kind: 7, Amount: 100001}, {Kind: 7, Amount: 1, Item: 1},
		{Kind: 8, Item: 8}, {Kind: 8, From: -1}, {Kind: 8, Amount: 1}, {Kind: 9}, {Kind: 9, Amount: 101}, {Kind: 9, Item: 16, Amount: 1},
		{Kind: 9, To: most + 1, Amount: 1}, {Kind: 9, From: 1, To: 2, Amount: 1}, {Kind: 10, Item: 16}, {Kind: 10, From: most + 1}, {Kind: 10, Account: 1},
		{Kind: 11, Amount: 9}, {Kind: 11, Amount: -1}, {Kind: 11, From: 1}, {Kind: 12, From: -1}, {Kind: 12, Region: 1}, {Kind: 12, View: true},
	} {
		if e := rights.CheckDeal(d); e != api.ErrArg || isValidDeal(d) {
			t.Errorf("%v with %+v", e, d)
		}
	}
}

func TestCheckDealSomeChanges(t *testing.T) { // P6.1, R5: against the second writing
	r := rand.New(rand.NewSource(4))
	counts := map[api.Errno]int{}
	for range 100000 {
		d := someDeal(r)
		for range r.Intn(3) {
			spoilNumber(r, pick(r, numbers(reflect.ValueOf(&d).Elem())...))
		}
		want := api.ErrArg
		if isValidDeal(d) {
			want = api.OK
		}
		counts[want]++
		if e := rights.CheckDeal(d); e != want {
			t.Fatalf("%v with %+v", e, d)
		}
	}
	if counts[api.OK] < 1000 || counts[api.ErrArg] < 1000 {
		t.Error(counts)
	}
}

func TestApply(t *testing.T) { // P6.2, P6.7: against the second writing of the table
	r := rand.New(rand.NewSource(5))
	counts := map[uint8]map[api.Errno]int{}
	for range 40000 {
		b, d := someBooks(r), someDeal(r)
		if r.Intn(20) == 0 {
			b = pick(r, smallBooks(), fullBooks())
		}
		want, wantError := carried(b, d)
		if wantError != api.OK {
			want = api.Books{}
		}
		n, e := rights.Apply(b, d)
		if e != wantError || !isSameBooks(n, want) {
			t.Fatalf("%+v: %+v, %v instead of %+v, %v", d, n, e, want, wantError)
		}
		if !isValid(n) {
			t.Fatalf("%+v: %+v", d, n)
		}
		if counts[d.Kind] == nil {
			counts[d.Kind] = map[api.Errno]int{}
		}
		counts[d.Kind][e]++
	}
	for kind, l := range [][]api.Errno{
		1: {0, 9}, 2: {0, 61}, 3: {0, 6, 60}, 4: {0, 6, 60}, 5: {0, 6, 2, 9}, 6: {0, 6}, 7: {0, 62},
		8: {0, 6, 2, 61, 9, 62}, 9: {0, 9}, 10: {0, 6, 60}, 11: {0, 6, 60, 63}, 12: {0, 6, 60, 63},
	} {
		for _, e := range l {
			if counts[uint8(kind)][e] < 3 {
				t.Error("kind", kind, "has too few of", e, counts[uint8(kind)])
			}
		}
	}
}

func TestApplyErrors(t *testing.T) { // P6.2, R1: which error comes first
	full := fullBooks()
	viewless := fullBooks()
	viewless.Products = viewless.Products[:7]
	viewless.Sales = nil
	poor := smallBooks()
	poor.Sales = append(sales(15), api.Sale{Account: 2, Product: 1, Epoch: 4})
	wrong := smallBooks()
	wrong.Credits[3] = -1
	deadHome := smallBooks()
	deadHome.Cards = append(deadHome.Cards, home(2, 9, 20, 21, 22, 23)...)
	for name, x := range map[string]struct {
		b api.Books
		d api.Deal
		e api.Errno
	}{
		"books before the deal":      {wrong, api.Deal{}, api.ErrBad},
		"deal":                       {smallBooks(), api.Deal{}, api.ErrArg},
		"deal before its error":      {smallBooks(), api.Deal{Kind: 4, Receiver: 50, Account: 1}, api.ErrArg},
		"full products":              {full, api.Deal{Kind: 1}, api.ErrFull},
		"second card":                {smallBooks(), api.Deal{Kind: 2, Receiver: 4}, api.ErrTwice},
		"second card of a dead one":  {smallBooks(), api.Deal{Kind: 2, Receiver: 7}, api.ErrTwice},
		"second card of all":         {full, api.Deal{Kind: 2, Receiver: 7}, api.ErrTwice},
		"move nothing":               {smallBooks(), api.Deal{Kind: 3, Receiver: 8}, api.ErrNone},
		"move dead":                  {smallBooks(), api.Deal{Kind: 3, Receiver: 7}, api.ErrDead},
		"kill nothing":               {smallBooks(), api.Deal{Kind: 4, Receiver: 8}, api.ErrNone},
		"kill dead":                  {smallBooks(), api.Deal{Kind: 4, Receiver: 7}, api.ErrDead},
		"grant nothing":              {smallBooks(), api.Deal{Kind: 5, Item: 2, To: 1}, api.ErrNone},
		"grant nothing to full":      {viewless, api.Deal{Kind: 5, Item: 7, To: 1}, api.ErrNone},
		"grant a view":               {smallBooks(), api.Deal{Kind: 5, Item: 1, To: 1}, api.ErrArg},
		"grant a view to full":       {full, api.Deal{Kind: 5, Item: 1, To: 1}, api.ErrArg},
		"full grants":                {full, api.Deal{Kind: 5, Item: 0, To: 1}, api.ErrFull},
		"stop nothing":               {smallBooks(), api.Deal{Kind: 6, Account: 2, Item: 0, From: 8}, api.ErrNone},
		"stop of no grant":           {smallBooks(), api.Deal{Kind: 6, Account: 3, Item: 0}, api.ErrNone},
		"stop of no product":         {smallBooks(), api.Deal{Kind: 6, Account: 2, Item: 7}, api.ErrNone},
		"stop of a view":             {smallBooks(), api.Deal{Kind: 6, Account: 2, Item: 1}, api.ErrNone},
		"much credit":                {smallBooks(), api.Deal{Kind: 7, Account: 2, Amount: 99501}, api.ErrCredits},
		"more credit":                {full, api.Deal{Kind: 7, Amount: 1}, api.ErrCredits},
		"buy nothing":                {viewless, api.Deal{Kind: 8, Account: 1, Item: 7, From: 3}, api.ErrNone},
		"buy no view":                {full, api.Deal{Kind: 8, Account: 1, Item: 6, From: 3}, api.ErrArg},
		"buy twice":                  {poor, api.Deal{Kind: 8, Account: 0, Item: 1, From: 0}, api.ErrTwice},
		"buy twice from full":        {full, api.Deal{Kind: 8, Account: 1, Item: 7, From: api.MaxTick}, api.ErrTwice},
		"full sales":                 {full, api.Deal{Kind: 8, Account: 1, Item: 7, From: 3}, api.ErrFull},
		"buy without credits":        {poor, api.Deal{Kind: 8, Account: 0, Item: 1, From: 3}, api.ErrCredits},
		"full licences":              {full, api.Deal{Kind: 9, Amount: 1}, api.ErrFull},
		"play without card":          {smallBooks(), api.Deal{Kind: 10, Receiver: 8, Item: 3}, api.ErrNone},
		"play with a dead card":      {smallBooks(), api.Deal{Kind: 10, Receiver: 7, Item: 3}, api.ErrDead},
		"play late":                  {smallBooks(), api.Deal{Kind: 10, Receiver: 4, Item: 3, From: 9}, api.ErrNone},
		"play another title":         {smallBooks(), api.Deal{Kind: 10, Receiver: 4, Item: 4}, api.ErrNone},
		"home without card":          {smallBooks(), api.Deal{Kind: 11, Receiver: 8, Amount: 2}, api.ErrNone},
		"home of a dead card":        {deadHome, api.Deal{Kind: 11, Receiver: 7, Amount: 2}, api.ErrDead},
		"home of another account":    {deadHome, api.Deal{Kind: 11, Receiver: 4, Amount: 2}, api.ErrHome},
		"full home":                  {full, api.Deal{Kind: 11, Receiver: 63 - 8, Amount: 1}, api.ErrHome},
		"meet without card":          {smallBooks(), api.Deal{Kind: 12, Receiver: 8}, api.ErrNone},
		"meet with a dead card":      {smallBooks(), api.Deal{Kind: 12, Receiver: 7}, api.ErrDead},
		"meet without a home":        {smallBooks(), api.Deal{Kind: 12, Receiver: 4}, api.ErrHome},
		"meet without a home, never": {smallBooks(), api.Deal{Kind: 12, Receiver: 4, From: api.MaxTick}, api.ErrHome},
	} {
		if b, e := rights.Apply(x.b, x.d); e != x.e || !isSameBooks(b, api.Books{}) {
			t.Errorf("%s: %v instead of %v, %+v", name, e, x.e, b)
		}
	}
}

func TestApplyEdges(t *testing.T) { // P6.2: what is still possible
	full := fullBooks()
	full.Cards[63].Account, full.Cards[63].Home, full.Cards[63].Met = 1, 0, 0
	for name, x := range map[string]struct {
		d    api.Deal
		want func(b *api.Books)
	}{
		"the home it has": {api.Deal{Kind: 11, Receiver: 63, Amount: 1}, func(b *api.Books) { b.Cards[0].Met = 0 }},
		"no home":         {api.Deal{Kind: 11, Receiver: 63}, func(b *api.Books) { b.Cards[0].Home, b.Cards[0].Met = 0, 0 }},
		"met before":      {api.Deal{Kind: 12, Receiver: 63, From: api.MaxTick}, func(*api.Books) {}},
		"met later":       {api.Deal{Kind: 12, Receiver: 63, From: 3}, func(*api.Books) {}},
		"all grants stop": {api.Deal{Kind: 6, Account: 15, Item: 6}, func(b *api.Books) { b.Grants = nil }},
		"late stop":       {api.Deal{Kind: 6, Account: 15, Item: 6, From: api.MaxTick - 1}, func(b *api.Books) { b.Grants = nil }},
		"one play":        {api.Deal{Kind: 10, Receiver: 48, Item: 15, From: api.MaxTick - 1}, func(b *api.Books) { b.Licences[0].Plays = 99 }},
		"moved at home":   {api.Deal{Kind: 3, Receiver: 63, Account: 0}, func(b *api.Books) { b.Cards[0].Home, b.Cards[0].Met = 0, 0 }},
		"killed":          {api.Deal{Kind: 4, Receiver: 63}, func(b *api.Books) { b.Cards[0] = api.Card{Receiver: 63, Region: 7, Level: 3, Dead: true} }},
	} {
		want := cloneBooks(full)
		x.want(&want)
		if b, e := rights.Apply(full, x.d); e != api.OK || !isSameBooks(b, want) {
			t.Errorf("%s: %v, %+v", name, e, b)
		}
	}
	b := smallBooks()
	b.Credits[2] = 100
	b = apply(t, b, api.Deal{Kind: 8, Account: 2, Item: 1, From: 5}, api.Deal{Kind: 7, Account: 2, Amount: 100000})
	if b.Credits[2] != 100000 || len(b.Sales) != 2 || b.Sales[1] != (api.Sale{Account: 2, Product: 1, Epoch: 5, Price: 100}) {
		t.Errorf("%+v", b)
	}
}

func TestReplay(t *testing.T) { // P6.2
	r := rand.New(rand.NewSource(6))
	for i := range 400 {
		b := someBooks(r)
		l := someDeals(r, r.Intn(60))
		if i%40 == 0 {
			l = someDeals(r, 1000)
		}
		for i := range l {
			if r.Intn(5) == 0 {
				spoilNumber(r, pick(r, numbers(reflect.ValueOf(&l[i]).Elem())...))
			}
		}
		want, done := cloneBooks(b), 0
		for _, d := range l {
			if !isValidDeal(d) {
				continue
			}
			n, e := carried(want, d)
			if e == api.OK {
				want = n
				done++
			}
		}
		got, count, e := rights.Replay(b, l)
		if e != api.OK || count != done || !isSameBooks(got, want) {
			t.Fatalf("%+v: %+v, %d, %v instead of %+v, %d", l, got, count, e, want, done)
		}
	}
}

func TestReplayErrors(t *testing.T) { // P6.2, R1
	wrong := smallBooks()
	wrong.Grants[0].To = 5
	many := slices.Repeat([]api.Deal{{Kind: 7, Amount: 1}}, 1001)
	for _, x := range []struct {
		b    api.Books
		l    []api.Deal
		done int
		e    api.Errno
	}{
		{wrong, nil, 0, api.ErrBad},
		{wrong, many, 0, api.ErrBad},
		{smallBooks(), many, 0, api.ErrMany},
		{smallBooks(), make([]api.Deal, 1001), 0, api.ErrMany},
		{smallBooks(), many[:1000], 1000, api.OK},
		{smallBooks(), make([]api.Deal, 1000), 0, api.OK},
		{smallBooks(), nil, 0, api.OK},
	} {
		want := x.b
		if want.Credits[0] = x.done; x.e != api.OK {
			want = api.Books{}
		}
		if b, n, e := rights.Replay(x.b, x.l); e != x.e || n != x.done || !isSameBooks(b, want) {
			t.Errorf("%d deals: %+v, %d, %v", len(x.l), b, n, e)
		}
	}
}
