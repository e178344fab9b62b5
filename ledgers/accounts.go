package ledgers

import (
	"strings"

	"assayer/api"
)

// account is a tenant, and what it may spend.
type account struct {
	api.Tenant
	left int
}

// opened are accounts of tenants, by their places, of which nothing may be spent yet.
func opened(l []api.Tenant) map[int]*account {
	out := make(map[int]*account, len(l))
	for place, t := range l {
		out[place] = &account{Tenant: own(t)}
	}
	return out
}

// own is a tenant whose texts are its own: a part of a longer text would keep the whole of that.
func own(t api.Tenant) api.Tenant {
	t.Name, t.Key = strings.Clone(t.Name), strings.Clone(t.Key)
	return t
}

// made tells whether New made the ledger.
func (l *Ledger) made() bool { return l != nil && l.accounts != nil }

// of is the account of the tenant at a place.
func (l *Ledger) of(tenant int) (*account, api.Errno) {
	if !l.made() {
		return nil, api.ErrNil
	}
	a, there := at(l.accounts, tenant)
	if !there {
		return nil, api.ErrArg
	}
	return a, api.OK
}

// at is what stands at a place, and whether anything does.
func at[A any](by map[int]*A, place int) (*A, bool) {
	a, there := by[place]
	return a, there
}

// first is the first one that is sought, from place 0 on, its place, and whether there is one.
func first[A any](by map[int]*A, sought func(*A) bool) (*A, int, bool) {
	for place := range len(by) {
		if a, there := at(by, place); there && sought(a) {
			return a, place, true
		}
	}
	return nil, 0, false
}
