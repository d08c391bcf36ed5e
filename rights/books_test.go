package rights_test

import (
	"math/rand"
	"reflect"
	"slices"
	"testing"

	"headend/api"
	"headend/rights"
)

// smallBooks returns valid books with one or two of each, and room for one more of each.
func smallBooks() api.Books {
	b := api.Books{
		Products: []api.Product{{Regions: 3, Level: 1}, {Regions: 255, Price: 100, View: true}},
		Cards: []api.Card{
			{Receiver: 4, Account: 2, Region: 1, Level: 1},
			{Receiver: 5, Account: 2, Region: 1, Level: 1, Home: 1},
			{Receiver: 6, Account: 2, Region: 1, Level: 1, Home: 1, Met: 3},
			{Receiver: 7, Account: 3, Region: 1, Level: 1, Dead: true},
		},
		Grants:   []api.Grant{{Account: 2, Product: 0, From: 5, To: 8}},
		Sales:    []api.Sale{{Account: 2, Product: 1, Epoch: 4, Price: 100}},
		Licences: []api.Licence{{Account: 2, Title: 3, Until: 9, Plays: 2}},
	}
	b.Credits[2] = 500
	return b
}

// fullBooks returns valid books in which every list is full, and the credits are.
func fullBooks() api.Books {
	var b api.Books
	for i := range api.MaxProducts {
		b.Products = append(b.Products, api.Product{Regions: 255, Level: 3, Price: 1000, View: i%2 == 1})
	}
	for u := range api.MaxReceiver {
		c := api.Card{Receiver: 63 - u, Account: u % 16, Region: 7, Level: 3}
		if home := u % 16; home < 8 {
			c.Home, c.Met = home+1, api.MaxTick+1
		}
		b.Cards = append(b.Cards, c)
		b.Grants = append(b.Grants, api.Grant{Account: 15, Product: 6, From: api.MaxTick - 1, To: api.MaxTick})
		b.Sales = append(b.Sales, api.Sale{Account: u % 16, Product: 7, Epoch: api.MaxTick - u/16, Price: 1000})
		b.Licences = append(b.Licences, api.Licence{Account: 15, Title: 15, Until: api.MaxTick, Plays: 100})
	}
	for i := range b.Credits {
		b.Credits[i] = api.MaxCredits
	}
	return b
}

func TestCheck(t *testing.T) { // P6.1
	r := rand.New(rand.NewSource(1))
	for _, b := range []api.Books{{}, smallBooks(), fullBooks()} {
		if e := rights.Check(b); e != api.OK {
			t.Errorf("%v with %+v", e, b)
		}
	}
	for range 2000 {
		if b := someBooks(r); !isValid(b) || rights.Check(b) != api.OK {
			t.Fatalf("%v with %+v", rights.Check(b), b)
		}
	}
}

func TestCheckWrong(t *testing.T) { // P6.1: each sentence of the definition
	for name, spoil := range map[string]func(b *api.Books){
		"products":             func(b *api.Books) { b.Products = slices.Repeat(b.Products, 5) },
		"level of a product":   func(b *api.Books) { b.Products[1].Level = 4 },
		"price of a product":   func(b *api.Books) { b.Products[1].Price = 1001 },
		"price below 0":        func(b *api.Books) { b.Products[1].Price = -1 },
		"cards":                func(b *api.Books) { b.Cards = slices.Repeat(b.Cards, 20) },
		"receiver":             func(b *api.Books) { b.Cards[0].Receiver = 64 },
		"account of a card":    func(b *api.Books) { b.Cards[0].Account = 16 },
		"region":               func(b *api.Books) { b.Cards[0].Region = 8 },
		"level of a card":      func(b *api.Books) { b.Cards[0].Level = 4 },
		"two cards":            func(b *api.Books) { b.Cards[3].Receiver = 4 },
		"home":                 func(b *api.Books) { b.Cards[0].Home = 9 },
		"home below 0":         func(b *api.Books) { b.Cards[0].Home = -1 },
		"met":                  func(b *api.Books) { b.Cards[2].Met = api.MaxTick + 2 },
		"met below 0":          func(b *api.Books) { b.Cards[2].Met = -1 },
		"met without home":     func(b *api.Books) { b.Cards[0].Met = 1 },
		"dead with home":       func(b *api.Books) { b.Cards[3].Home = 2 },
		"dead with met":        func(b *api.Books) { b.Cards[3].Met = 2 },
		"home of two":          func(b *api.Books) { b.Cards[2].Account = 3 },
		"large home":           func(b *api.Books) { b.Cards = append(b.Cards, home(1, 2, 10, 11, 12)...) },
		"grants":               func(b *api.Books) { b.Grants = slices.Repeat(b.Grants, 65) },
		"account of a grant":   func(b *api.Books) { b.Grants[0].Account = 16 },
		"product of a grant":   func(b *api.Books) { b.Grants[0].Product = 2 },
		"product below 0":      func(b *api.Books) { b.Grants[0].Product = -1 },
		"grant of a view":      func(b *api.Books) { b.Grants[0].Product = 1 },
		"grant below 0":        func(b *api.Books) { b.Grants[0].From = -1 },
		"empty grant":          func(b *api.Books) { b.Grants[0].To = 5 },
		"backward grant":       func(b *api.Books) { b.Grants[0].To = 4 },
		"long grant":           func(b *api.Books) { b.Grants[0].To = api.MaxTick + 1 },
		"sales":                func(b *api.Books) { b.Sales = sales(65) },
		"account of a sale":    func(b *api.Books) { b.Sales[0].Account = 16 },
		"product of a sale":    func(b *api.Books) { b.Sales[0].Product = 0 },
		"no product":           func(b *api.Books) { b.Sales[0].Product = 2 },
		"epoch of a sale":      func(b *api.Books) { b.Sales[0].Epoch = api.MaxTick + 1 },
		"price of a sale":      func(b *api.Books) { b.Sales[0].Price = 1001 },
		"two sales":            func(b *api.Books) { b.Sales = append(b.Sales, api.Sale{Account: 2, Product: 1, Epoch: 4}) },
		"licences":             func(b *api.Books) { b.Licences = slices.Repeat(b.Licences, 65) },
		"account of a licence": func(b *api.Books) { b.Licences[0].Account = 16 },
		"title":                func(b *api.Books) { b.Licences[0].Title = 16 },
		"until":                func(b *api.Books) { b.Licences[0].Until = api.MaxTick + 1 },
		"plays":                func(b *api.Books) { b.Licences[0].Plays = 101 },
		"credits":              func(b *api.Books) { b.Credits[15] = 100001 },
		"credits below 0":      func(b *api.Books) { b.Credits[0] = -1 },
	} {
		b := smallBooks()
		spoil(&b)
		if e := rights.Check(b); e != api.ErrBad || isValid(b) {
			t.Errorf("%s: %v", name, e)
		}
	}
}

// home returns cards of an account with a home.
func home(n, account int, receivers ...int) []api.Card {
	var l []api.Card
	for _, u := range receivers {
		l = append(l, api.Card{Receiver: u, Account: account, Home: n})
	}
	return l
}

// sales returns n different sales.
func sales(n int) []api.Sale {
	var l []api.Sale
	for i := range n {
		l = append(l, api.Sale{Account: i % 16, Product: 1, Epoch: i / 16})
	}
	return l
}

// numbers returns all fields of a value that are numbers or bools, also in lists.
func numbers(v reflect.Value) []reflect.Value {
	var l []reflect.Value
	switch v.Kind() {
	case reflect.Struct:
		for i := range v.NumField() {
			l = append(l, numbers(v.Field(i))...)
		}
	case reflect.Slice, reflect.Array:
		for i := range v.Len() {
			l = append(l, numbers(v.Index(i))...)
		}
	default:
		l = append(l, v)
	}
	return l
}

// spoilNumber gives a field another value.
func spoilNumber(r *rand.Rand, v reflect.Value) {
	switch v.Kind() {
	case reflect.Bool:
		v.SetBool(!v.Bool())
	case reflect.Uint8:
		v.SetUint(uint64(pick(r, 0, 1, 3, 4, 7, 8, 12, 13, 128, 255)))
	default:
		v.SetInt(int64(pick(r, edges()...)))
	}
}

func TestCheckSomeChanges(t *testing.T) { // P6.1, R5, R6: against the second writing
	r := rand.New(rand.NewSource(2))
	counts := map[api.Errno]int{}
	for range 8000 {
		b := pick(r, someBooks(r), smallBooks(), fullBooks())
		for range 1 + r.Intn(2) {
			spoilNumber(r, pick(r, numbers(reflect.ValueOf(&b).Elem())...))
		}
		if r.Intn(4) == 0 && len(b.Cards) > 0 {
			b.Cards = append(b.Cards, pick(r, b.Cards...))
		}
		want := api.ErrBad
		if isValid(b) {
			want = api.OK
		}
		counts[want]++
		if e := rights.Check(b); e != want {
			t.Fatalf("%v with %+v", e, b)
		}
	}
	if counts[api.OK] < 1000 || counts[api.ErrBad] < 1000 {
		t.Error(counts)
	}
}

func TestSame(t *testing.T) { // P6.1, R4
	r := rand.New(rand.NewSource(3))
	for range 3000 {
		b := pick(r, someBooks(r), smallBooks(), fullBooks())
		n := cloneBooks(b)
		if !rights.Same(b, n) || !rights.Same(n, b) {
			t.Fatalf("not the same: %+v", b)
		}
		v := pick(r, numbers(reflect.ValueOf(&n).Elem())...)
		before := reflect.ValueOf(v.Interface())
		spoilNumber(r, v)
		want := before.Equal(v)
		if rights.Same(b, n) != want || rights.Same(n, b) != want {
			t.Fatalf("%v: %+v, %+v", want, b, n)
		}
	}
	none := api.Books{Products: []api.Product{}, Cards: []api.Card{}, Grants: []api.Grant{}, Sales: []api.Sale{}, Licences: []api.Licence{}}
	if !rights.Same(none, api.Books{}) || !rights.Same(api.Books{}, none) {
		t.Error("nil and empty lists")
	}
}

func TestSameLists(t *testing.T) { // P6.1: each list counts, with its length and its order
	for name, change := range map[string]func(b *api.Books){
		"products":  func(b *api.Books) { b.Products = b.Products[:1] },
		"cards":     func(b *api.Books) { b.Cards = b.Cards[:3] },
		"grants":    func(b *api.Books) { b.Grants = nil },
		"sales":     func(b *api.Books) { b.Sales = nil },
		"licences":  func(b *api.Books) { b.Licences = nil },
		"one more":  func(b *api.Books) { b.Licences = append(b.Licences, api.Licence{}) },
		"order":     func(b *api.Books) { slices.Reverse(b.Cards) },
		"credits":   func(b *api.Books) { b.Credits[15]++ },
		"not valid": func(b *api.Books) { b.Grants[0].To = -1 },
	} {
		b, n := smallBooks(), smallBooks()
		change(&n)
		if rights.Same(b, n) || rights.Same(n, b) || !rights.Same(n, cloneBooks(n)) {
			t.Error(name)
		}
	}
}
