package rate

import "wharf/api"

// meter reckons the levels of a rate.
type meter struct{ api.Rate }

// passed answers how much time has gone by since something was sent, as far as it counts: none, if now is ahead of that.
func (m meter) passed(now int64) int64 {
	if now <= m.Last {
		return 0
	}
	return min(now-m.Last, api.MaxLevel)
}

// next answers the level behind something that is sent now. A Window of 0, which only a rate has that may not be, must
// not divide.
func (m meter) next(now int64) int64 {
	return min(m.Max, ((m.Window-1)*m.Level+m.passed(now))/max(m.Window, 1))
}

func (m meter) may(now int64) bool {
	return m.next(now) >= m.Limit
}

func (m meter) sent(now int64) meter {
	m.Level, m.Last = m.next(now), max(m.Last, now)
	return m
}

// wait answers how much time is to go by until something may be sent. As what is left over of a level is dropped, it is
// Limit at least just when the sum that is divided is Limit times Window at least. Max is never below Limit, and so has
// no part in it.
func (m meter) wait(now int64) int64 {
	lacks := m.Limit*m.Window - (m.Window-1)*m.Level
	at := now
	if lacks > 0 {
		at = max(now, m.Last+lacks)
	}
	if lacks > api.MaxLevel || at > api.MaxTime {
		return api.MaxTime
	}
	return at - now
}
