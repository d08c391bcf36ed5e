package rights

import "headend/api"

// span is the numbers from low to high.
type span struct{ low, high int }

func (s span) has(n int) bool { return isWithin(n, s.low, s.high) }

// fields are the ranges of the fields of a deal; those that its kind does not use have the number 0 alone.
type fields struct {
	receiver, account, item, from, to, amount, region, level span
	view                                                     bool
}

// fieldsOf returns the ranges of a kind, and whether there is such a kind.
func fieldsOf(kind uint8) (fields, bool) {
	receiver, account := span{0, api.MaxReceiver - 1}, span{0, api.MaxAccounts - 1}
	product, title := span{0, api.MaxProducts - 1}, span{0, api.MaxTitles - 1}
	region, level, epoch := span{0, api.MaxRegions - 1}, span{0, api.MaxLevel}, span{0, api.MaxTick}
	switch kind {
	case api.DealProduct:
		return fields{region: span{0, 255}, level: level, amount: span{0, api.MaxPrice}, view: true}, true
	case api.DealIssue:
		return fields{receiver: receiver, account: account, region: region, level: level}, true
	case api.DealMove:
		return fields{receiver: receiver, account: account}, true
	case api.DealKill:
		return fields{receiver: receiver}, true
	case api.DealGrant:
		return fields{account: account, item: product, from: epoch, to: epoch}, true
	case api.DealStop, api.DealBuy:
		return fields{account: account, item: product, from: epoch}, true
	case api.DealFill:
		return fields{account: account, amount: span{1, api.MaxCredits}}, true
	case api.DealLend:
		return fields{account: account, item: title, to: epoch, amount: span{1, api.MaxPlays}}, true
	case api.DealPlay:
		return fields{receiver: receiver, item: title, from: epoch}, true
	case api.DealHome:
		return fields{receiver: receiver, amount: span{0, api.MaxHomes}}, true
	case api.DealMeet:
		return fields{receiver: receiver, from: epoch}, true
	}
	return fields{}, false
}

// have reports whether the fields of a deal are within their ranges.
func (f fields) have(d api.Deal) bool {
	return f.receiver.has(d.Receiver) && f.account.has(d.Account) && f.item.has(d.Item) &&
		f.from.has(d.From) && f.to.has(d.To) && f.amount.has(d.Amount) &&
		f.region.has(int(d.Region)) && f.level.has(int(d.Level)) && (f.view || !d.View)
}

// CheckDeal returns ErrArg unless a deal is valid.
func CheckDeal(d api.Deal) api.Errno {
	f, is := fieldsOf(d.Kind)
	if !is || !f.have(d) || d.Kind == api.DealGrant && d.From >= d.To {
		return api.ErrArg
	}
	return api.OK
}
