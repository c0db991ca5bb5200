package share

import "bathyal/api"

// fate is what becomes of a person, by what it makes of a share and a debt in the end.
type fate interface {
	end(share, debt int) api.ShareEnd
}

// The fates.
type (
	staying   struct{}
	deserting struct{}
	dying     struct{}
)

func (staying) end(share, debt int) api.ShareEnd {
	off := min(share, debt)
	return api.ShareEnd{Share: share, Off: off, Paid: share - off, Owed: debt - off}
}

func (deserting) end(_, debt int) api.ShareEnd { return api.ShareEnd{Owed: debt} }

func (dying) end(share, debt int) api.ShareEnd {
	off := min(debt, share/2)
	return api.ShareEnd{Share: share, Off: off, Paid: share - off, Struck: debt - off}
}

// fateOf returns the fate of a name, or nil if there is none of that name.
func fateOf(name api.ShareFate) fate {
	switch name {
	case api.ShareStays:
		return staying{}
	case api.ShareDeserts:
		return deserting{}
	case api.ShareDies:
		return dying{}
	}
	return nil
}

// shares reports whether a person has a share of the landings in whose crews the person is.
func shares(p api.SharePerson) bool {
	switch fateOf(p.Fate).(type) {
	case staying, dying:
		return true
	}
	return false
}

// stays reports whether a person stays.
func stays(p api.SharePerson) bool {
	switch fateOf(p.Fate).(type) {
	case staying:
		return true
	}
	return false
}
