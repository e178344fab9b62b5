package ledgers

import (
	"slices"

	"assayer/api"
)

// longestKey is how many bytes a key has at most.
const longestKey = 64

// mayBe tells whether tenants may be.
func mayBe(l []api.Tenant) bool {
	if len(l) == 0 || len(l) > api.MaxTenants {
		return false
	}
	for i, t := range l {
		if !tenantMayBe(t) || slices.ContainsFunc(l[:i], func(u api.Tenant) bool { return u.Name == t.Name }) {
			return false
		}
	}
	return true
}

// tenantMayBe tells whether a tenant may be, if it is the only one.
func tenantMayBe(t api.Tenant) bool {
	return isName(t.Name) && isWithin(len(t.Key), longestKey) && isWithin(t.Rate, api.MaxBudget)
}

func isWithin(n, most int) bool { return n >= 1 && n <= most }

// isName tells whether a text is a name. Package tokens can tell too, but this layer does not stand on it.
func isName(s string) bool {
	if !isWithin(len(s), api.MaxName) || !isLetter(s[0]) || ofLanguage(s) {
		return false
	}
	for i := range len(s) {
		if !isOfName(s[i]) {
			return false
		}
	}
	return true
}

func isLetter(c byte) bool { return c >= 'a' && c <= 'z' || c >= 'A' && c <= 'Z' }

func isOfName(c byte) bool { return isLetter(c) || c >= '0' && c <= '9' || c == '_' }

// ofLanguage tells whether a word is one of the language's own.
func ofLanguage(s string) bool {
	switch s {
	case "most", "least", "sum", "rows", "vars", "whole", "free", "end":
		return true
	}
	return false
}
