package deed

import "couchant/api"

// shape says which word the lines of a kind of deeds have, and which fields these use.
type shape struct {
	word                               string
	day, from, to, parts, end, of, kin bool
}

// shapes returns the shapes of all kinds.
func shapes() [api.DeedVoid + 1]shape {
	return [api.DeedVoid + 1]shape{
		api.DeedEnter:  {word: "enter", day: true, to: true, parts: true},
		api.DeedGrant:  {word: "grant", day: true, from: true, to: true, parts: true},
		api.DeedHeirs:  {word: "heirs", day: true, from: true, kin: true},
		api.DeedLease:  {word: "lease", day: true, from: true, to: true, parts: true, end: true},
		api.DeedPledge: {word: "pledge", day: true, from: true, to: true, parts: true},
		api.DeedRedeem: {word: "redeem", day: true, of: true},
		api.DeedSeize:  {word: "seize", day: true, of: true},
		api.DeedVoid:   {word: "void", of: true},
	}
}

// isKind tells whether there are deeds of a kind.
func isKind(kind uint8) bool { return api.DeedEnter <= kind && kind <= api.DeedVoid }

// field is a number of a deed: whether its kind uses it, and from where to where it may be if so.
type field struct {
	used      bool
	number    *int
	low, high int
}

// fits tells whether a field has a number that it may have.
func (f field) fits() bool {
	if !f.used {
		return *f.number == 0
	}
	return within(*f.number, f.low, f.high)
}

// ahead is how many of the fields of a deed stand before the word of its line.
const ahead = 3

// fieldsOf returns the numbers of a deed in the order of its line.
func fieldsOf(x *api.Deed) [8]field {
	s := shapes()[x.Kind]
	return [8]field{
		{true, &x.Id, 1, api.MaxDeeds},
		{true, &x.Known, 0, api.MaxDay},
		{s.day, &x.Day, 0, api.MaxDay},
		{s.from, &x.From, 1, api.MaxOwner},
		{s.to, &x.To, 1, api.MaxOwner},
		{s.parts, &x.Parts, 1, api.MaxParts},
		{s.end, &x.End, x.Day, api.MaxDay},
		{s.of, &x.Of, 1, x.Id - 1},
	}
}
