package rate

import (
	"slices"
	"strings"

	"wharf/api"
)

// Push answers l with n among its notes (P19.3). Beside an error it answers l as it was: what waits so far waits still.
func Push(l api.Line, n api.Note) (api.Line, api.Errno) {
	l.Notes = twins(l.Notes)
	at := outdated(l.Notes, n.Kind)
	switch {
	case at >= 0:
		l.Notes[at] = twin(n)
	case len(l.Notes) >= api.MaxWaits:
		return l, api.ErrFull
	default:
		l.Notes = append(l.Notes, twin(n))
	}
	return l, api.OK
}

// outdated answers where a note waits that says nothing any more, once a newer one of that Kind is there: how somebody
// is, not how they were, is to be known. It answers a place below 0, if there is none.
func outdated(notes []api.Note, kind int) int {
	if kind != api.LgStatus && kind != api.LgIdle {
		return -1
	}
	return slices.IndexFunc(notes, func(n api.Note) bool {
		return n.Kind == kind
	})
}

// Pop answers l without the notes that may be sent now, which are sent, and these notes (P19.4).
func Pop(l api.Line, now int64) (api.Line, []api.Note) {
	m, gone := meter{l.Rate}, 0
	for gone < len(l.Notes) && m.may(now) {
		m = m.sent(now)
		gone++
	}
	return api.Line{Rate: m.Rate, Notes: twins(l.Notes[gone:])}, twins(l.Notes[:gone])
}

// twins answers notes that are the same as these, and share nothing with them.
func twins(notes []api.Note) []api.Note {
	out := slices.Clone(notes)
	for i, n := range notes {
		out[i] = twin(n)
	}
	return out
}

func twin(n api.Note) api.Note {
	n.Name, n.Text, n.Data = strings.Clone(n.Name), strings.Clone(n.Text), strings.Clone(n.Data)
	n.Items, n.Codes = slices.Clone(n.Items), slices.Clone(n.Codes)
	for i, it := range n.Items {
		n.Items[i].Name, n.Items[i].Alias = strings.Clone(it.Name), strings.Clone(it.Alias)
	}
	return n
}
