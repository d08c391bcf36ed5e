package rights_test

import (
	"bytes"
	"encoding/hex"
	"slices"
	"testing"

	"headend/api"
	"headend/rights"
)

// exampleDeals are those of the chapter's examples.
func exampleDeals() []api.Deal {
	return []api.Deal{
		{Kind: api.DealProduct, Region: 3, Level: 1},
		{Kind: api.DealIssue, Receiver: 4, Account: 2, Region: 1, Level: 1},
		{Kind: api.DealGrant, Account: 2, From: 5, To: 8},
	}
}

func fromHex(t *testing.T, s string) []byte {
	t.Helper()
	b, err := hex.DecodeString(s)
	if err != nil {
		t.Fatal(err)
	}
	return b
}

func isEntitledIn(t *testing.T, b api.Books, u int, epochs ...int) {
	t.Helper()
	var l []int
	for epoch := range 12 {
		if isEntitled(t, b, u, 0, epoch) {
			l = append(l, epoch)
		}
	}
	if !slices.Equal(l, epochs) {
		t.Errorf("receiver %d is entitled in %v instead of %v", u, l, epochs)
	}
}

func TestExamples(t *testing.T) {
	b := apply(t, api.Books{}, exampleDeals()...)
	isEntitledIn(t, b, 4, 5, 6, 7)
	if l := must[[]int](t)(rights.Revoked(b, 0, 5, 2)); !slices.Equal(l, []int{0, 1, 2, 3}) {
		t.Error(l)
	}
	if l := must[[]int](t)(rights.Revoked(b, 0, 5, 3)); !slices.Equal(l, []int{0, 1, 2, 3, 5, 6, 7}) {
		t.Error(l)
	}
	isEntitledIn(t, apply(t, b, api.Deal{Kind: api.DealMove, Receiver: 4, Account: 3}), 4)
	isEntitledIn(t, apply(t, b, api.Deal{Kind: api.DealStop, Account: 2, From: 6}), 4, 5)

	home := apply(t, b,
		api.Deal{Kind: api.DealGrant, Account: 2, To: 12},
		api.Deal{Kind: api.DealIssue, Receiver: 9, Account: 2, Region: 1, Level: 1},
		api.Deal{Kind: api.DealHome, Receiver: 9, Amount: 1},
		api.Deal{Kind: api.DealHome, Receiver: 4, Amount: 1},
	)
	isEntitledIn(t, home, 9)
	home = apply(t, home, api.Deal{Kind: api.DealMeet, Receiver: 9})
	isEntitledIn(t, home, 4, 0, 1, 2, 3, 4, 5, 6, 7, 8, 9, 10, 11)
	isEntitledIn(t, home, 9, 0, 1, 2, 3)

	x := must[[]byte](t)(rights.EncodeDeal(api.Deal{Kind: api.DealKill, Receiver: 4}))
	if want := append([]byte{4, 4}, make([]byte, 25)...); !bytes.Equal(x, want) {
		t.Errorf("%x", x)
	}
	o := rights.Open()
	if !bytes.Equal(o.Log.Bytes, make([]byte, 8)) {
		t.Errorf("%x", o.Log.Bytes)
	}
	if o = do(t, o, exampleDeals()[0]); len(o.Log.Bytes) != 51 {
		t.Errorf("%x", o.Log.Bytes)
	}
}

func TestFixedBytes(t *testing.T) { // P6.4 to P6.6: the files of the examples, as computed elsewhere
	const (
		log = "0000000000000000010000000000000000000000000000000000000000000000030100e8d9ac5510574bb3de0c48fec3b8a29e" +
			"0204020000000000000000000000000000000000000000000101003cff1b42cbbd59773782ea3c40c42e64" +
			"0500020000000000000000050000000000000008000000000000002379996745fef685b0998ba8e768a9d1"
		books = "01030100000001040201010000000000000000000001020000000000000000050000000000000008000000000000000000000000" +
			"00000000000000000000000000000000000000000000000000000000000000000000000000000000000000000000000000000000"
		snapshot = "00000000000000010000006a" + books + "0000f7fcdf256d534f431e5c6c74fc482c9c"
		next     = "00000000000000010600020000000000000000060000000000000000000000000000008031374f36d07d931d27fc56dcf4f9b5" +
			"0304030000000000000000000000000000000000000000000000008fc9876a02e7ceb5b318e0bb8faa9df5"
	)
	o := do(t, rights.Open(), exampleDeals()...)
	if !bytes.Equal(o.Log.Bytes, fromHex(t, log)) {
		t.Errorf("%x", o.Log.Bytes)
	}
	if x := must[[]byte](t)(rights.EncodeBooks(o.Books)); !bytes.Equal(x, fromHex(t, books+"0000")) {
		t.Errorf("%x", x)
	}
	for range 4 {
		o = must[api.Office](t)(rights.Turn(o))
	}
	stop := api.Deal{Kind: api.DealStop, Account: 2, From: 6}
	o = do(t, o, stop, api.Deal{Kind: api.DealMove, Receiver: 4, Account: 3})
	if !bytes.Equal(o.Shots[1].Bytes, fromHex(t, snapshot)) || len(o.Shots[0].Bytes) > 0 {
		t.Errorf("%x", o.Shots)
	}
	if !bytes.Equal(o.Log.Bytes, fromHex(t, next)) {
		t.Errorf("%x", o.Log.Bytes)
	}
	d := api.Disk{Shots: [2][]byte{nil, fromHex(t, snapshot)}, Log: fromHex(t, next)}
	if got := must[api.Office](t)(rights.Recover(d)); !isSameBooks(got.Books, o.Books) || got.Count != 1 {
		t.Errorf("%+v", got)
	}
}
