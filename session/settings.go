package session

import (
	"beacon/api"
	"beacon/metric"
)

// Check tells why settings may not be.
func Check(c api.Config) api.Errno {
	if !mayBe(c) {
		return api.ErrLimit
	}
	return api.OK
}

func mayBe(c api.Config) bool {
	return metric.Limit(c.MaxDist) == api.OK &&
		isWithin(c.MaxTTL, 1, api.MaxHops) &&
		isWithin(c.MaxEntries, 0, api.MaxTable) &&
		isLife(c.HelloLife) && isLife(c.Resend) && isLife(c.DirLife) && isLife(c.Refresh)
}

func isLife(ticks int) bool { return isWithin(ticks, 1, api.MaxLife) }

func isWithin(n, least, most int) bool { return n >= least && n <= most }

// Usual is settings that may be.
func Usual() api.Config {
	return api.Config{
		MaxDist:    256,
		MaxTTL:     256,
		MaxEntries: 256,
		HelloLife:  6,
		Resend:     3,
		DirLife:    40,
		Refresh:    8,
	}
}
