package flow

import (
	"cmp"

	"holloway/addr"
	"holloway/api"
	"holloway/checks"
	"holloway/lists"
)

// together are the reports that change makes of some, and those that are of the same put together.
func together(l []api.Report, change func(r api.Report) api.Report) []api.Report {
	return lists.Gather(lists.Map(l, change), compareReports, func(x, y api.Report) api.Report {
		x.Packets = min(x.Packets+y.Packets, api.MaxBytes)
		x.Bytes = min(x.Bytes+y.Bytes, api.MaxBytes)
		return x
	})
}

// Thin puts old reports together by days.
func Thin(l []api.Report, before int) ([]api.Report, api.Errno) {
	if e := cmp.Or(Check(l), checks.Number(before, 0, api.MaxDay+1)); e != api.OK {
		return nil, e
	}
	return together(l, func(r api.Report) api.Report {
		if r.Hour < before*dayHours {
			r.Hour -= r.Hour % dayHours
			r.Flow.FromPort, r.Flow.ToPort = 0, 0
		}
		return r
	}), api.OK
}

// Hide hides the last bits of addresses.
func Hide(l []api.Report, bits4, bits6 int) ([]api.Report, api.Errno) {
	if e := cmp.Or(Check(l), checks.Number(bits4, 0, 32), checks.Number(bits6, 0, 128)); e != api.OK {
		return nil, e
	}
	hide := func(a api.Addr) api.Addr {
		bits := bits4
		if a.Six {
			bits = bits6
		}
		p, _ := addr.Mask(a, bits)
		return p.Addr
	}
	return together(l, func(r api.Report) api.Report {
		r.Flow.From, r.Flow.To = hide(r.Flow.From), hide(r.Flow.To)
		return r
	}), api.OK
}
